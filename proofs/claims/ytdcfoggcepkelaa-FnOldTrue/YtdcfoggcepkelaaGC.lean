/- Joined: what the texts behind it need. -/
import Derived.Test.YtdcfoggcepkelaaGB
import Derived.Test.YtdcfoggcepkelaaGA
/- Where a key stands: a binary search over slots. -/
namespace Go.Proofs.Ytdcfoggcepkelaa
open Go.RowKit
namespace U
def cmpI (x k : Int) : Int := if x < k then -1 else if k < x then 1 else 0
set_option maxRecDepth 100000 in
theorem isNaN_any (x : Int) (w : World) : Calls Try.prog 125 #[.int .i64 x] w fun e w' => e = .returned (.bool false) ∧ ∃ n, w' = w.drewN n := by
  go_enter Try.func125, Try.ntmps125
  go_wp2
  go_ret
  exact ⟨ret_bool (by simp), 0, rfl⟩
set_option maxRecDepth 100000 in
theorem compare_any (x k : Int) (w : World) : Calls Try.prog 119 #[.int .i64 x, .int .i64 k] w fun e w' => e = .returned (.int .i64 (cmpI x k)) ∧ ∃ n, w' = w.drewN n := by
  have hN := fun x w => isNaN_any x w
  unfold cmpI
  by_cases h1 : x < k
  · rw [if_pos h1]
    go_enter Try.func119, Try.ntmps119
    go_wp2_with (go_at_call 125; refine (hN _ _).mono ?_; rintro e w1 ⟨rfl, n1, rfl⟩)
    go_ret
    exact ⟨rfl, _, rfl⟩
  · rw [if_neg h1]
    by_cases h2 : k < x
    · rw [if_pos h2]
      go_enter Try.func119, Try.ntmps119
      go_wp2_with (go_at_call 125; refine (hN _ _).mono ?_; rintro e w1 ⟨rfl, n1, rfl⟩)
      go_ret
      exact ⟨rfl, _, rfl⟩
    · rw [if_neg h2]
      go_enter Try.func119, Try.ntmps119
      go_wp2_with (go_at_call 125; refine (hN _ _).mono ?_; rintro e w1 ⟨rfl, n1, rfl⟩)
      go_ret
      exact ⟨rfl, _, rfl⟩
set_option maxRecDepth 100000 in
theorem placeOf1_any (x y k : Int) (w : World) : Calls Try.prog 118 #[.agg #[.int .i64 x, .int .i64 y], .int .i64 k] w fun e w' => e = .returned (.int .i64 (cmpI x k)) ∧ Below w.heap.size w w' := by
  have hC := fun w => compare_any x k w
  generalize cmpI x k = c at *
  go_enter Try.func118, Try.ntmps118
  go_wp2_with fail
  refine (hC _).mono ?_
  rintro e w1 ⟨rfl, n1, rfl⟩
  clear hC
  go_wp2
  go_ret
  exact ⟨rfl, below_drewN (one_new _) _⟩
set_option maxRecDepth 100000 in
set_option maxHeartbeats 2000000 in
theorem binarySearch_core (b off c n : Nat) (l : Prl) (k : Int) (w : World) (HN : Hid (n = l.length)) (hn : n ≤ 12) (hb : b < w.heap.size) (HR : Hid (Ris l))
    (hc : ∀ j, j < n → w.cell? ⟨b, off + j * 2, none⟩ = some (.int .i64 (pAt l j).1) ∧ w.cell? ⟨b, off + j * 2 + 1, none⟩ = some (.int .i64 (pAt l j).2)) :
    Calls Try.prog 117 #[.slice (some ⟨b, off, none⟩) n c, .int .i64 k, .func (.func 118) #[] #[]] w fun e w' => e = .returned (.tuple #[.int .i64 (low l k : Nat), .bool (thr l k)]) ∧ Below w.heap.size w w' := by
  have hll : low l k ≤ n := by have := low_le l k; have := HN.out; omega
  have HI : Hid (∀ i, i < n → ((pAt l i).1 < k ↔ i < low l k)) := fun i hi => low_iff HR.out k (by have := HN.out; omega)
  have HC : Hid (∀ j, j < n → w.cell? ⟨b, off + j * 2, none⟩ = some (.int .i64 (pAt l j).1) ∧ w.cell? ⟨b, off + j * 2 + 1, none⟩ = some (.int .i64 (pAt l j).2)) := hc
  have HT : Hid (thr l k = (decide (low l k < n) && decide ((pAt l (low l k)).1 = k))) := by show _ = _; rw [HN.out]; rfl
  have HCM := fun x y w => placeOf1_any x y k w
  generalize thr l k = th at *
  generalize low l k = lo at *
  clear hc
  go_enter Try.func117, Try.ntmps117
  go_wp2
  go_loopw [9, 10] (fun a z wr => ∃ i j : Nat, a = .int .i64 i ∧ z = .int .i64 j ∧ i ≤ lo ∧ lo ≤ j ∧ j ≤ n ∧ Below w.heap.size w wr) (fun a z _ => (intOf z).toNat - (intOf a).toNat)
  case atStart => exact ⟨0, n, rfl, rfl, by omega, hll, by omega, Below.refl _ _⟩
  case round =>
    obtain ⟨i, j, rfl, rfl, hi, hj, hjn, hB⟩ := hrel
    by_cases hij : i < j
    · have hiji : (i : Int) < (j : Int) := by omega
      obtain ⟨h, hh⟩ : ∃ h, h = (i + j) / 2 := ⟨_, rfl⟩
      have h1 : i ≤ h := by omega
      have h2 : h < j := by omega
      have h3 : h < n := by omega
      obtain ⟨c0, c1⟩ := HC.out h h3
      have c0 := (hB.cell (p := ⟨b, off + h * 2, none⟩) hb).trans c0
      have c1 := (hB.cell (p := ⟨b, off + h * 2 + 1, none⟩) hb).trans c1
      have hM := fun w => HCM (pAt l h).1 (pAt l h).2 w
      have HX := HI.out h h3
      generalize (pAt l h).1 = x at *
      generalize (pAt l h).2 = y at *
      have e1 : IntKind.u64.wrap ((i : Int) + (j : Int)) = (i : Int) + (j : Int) := by rw [IntKind.wrap_u64]; omega
      have e2 : ((i : Int) + (j : Int)) / 2 = (h : Int) := by omega
      have hhn : (h : Int) < (n : Int) := by omega
      have HH : Hid (h = (i + j) / 2) := hh
      clear hh
      go_wp2_with fail
      refine (hM _).mono ?_
      rintro e w1 ⟨rfl, hb1⟩
      have hB1 := below_after_of hB hb1
      clear hM hb1 HCM
      by_cases hx : x < k
      · have hlt := HX.1 hx
        have ec : cmpI x k = -1 := by unfold cmpI; rw [if_pos hx]
        rw [ec]
        clear HX ec
        go_wp2
        go_roundw
        case rel => exact ⟨h + 1, j, by go_num, rfl, by omega, hj, hjn, hB1⟩
        case measure => simp [intOf]; omega
      · have hge : lo ≤ h := Nat.le_of_not_lt fun hh => hx (HX.2 hh)
        have ec : 0 ≤ cmpI x k ∧ cmpI x k ≤ 1 := by unfold cmpI; rw [if_neg hx]; split <;> omega
        generalize cmpI x k = cc at *
        clear HX
        go_wp2
        go_roundw
        case rel => exact ⟨i, h, rfl, rfl, hi, hge, by omega, hB1⟩
        case measure => simp [intOf]; omega
    · have e0 : i = lo := by omega
      subst e0
      have hiji : ¬ (i : Int) < (j : Int) := by omega
      by_cases hin : i < n
      · have hini : (i : Int) < (n : Int) := by omega
        obtain ⟨c0, c1⟩ := HC.out i hin
        have c0 := (hB.cell (p := ⟨b, off + i * 2, none⟩) hb).trans c0
        have c1 := (hB.cell (p := ⟨b, off + i * 2 + 1, none⟩) hb).trans c1
        have hM := fun w => HCM (pAt l i).1 (pAt l i).2 w
        have HX := HI.out i hin
        have ht := HT.out
        rw [decide_eq_true hin, Bool.true_and] at ht
        generalize (pAt l i).1 = x at *
        generalize (pAt l i).2 = y at *
        have hxk : ¬ x < k := fun hh => by have := HX.1 hh; omega
        have ec : (cmpI x k == 0) = decide (x = k) := by
          unfold cmpI
          rw [if_neg hxk]
          by_cases e : x = k
          · subst e; simp
          · rw [if_pos (by omega), decide_eq_false e]; rfl
        rw [← ht] at ec
        have ET : Hid ((cmpI x k == 0) = th) := ec
        generalize cmpI x k = cc at *
        clear HCM HX HT HI ht ec
        go_wp2_with fail
        refine (hM _).mono ?_
        rintro e w1 ⟨rfl, hb1⟩
        have hB1 := below_after_of hB hb1
        clear hM hb1
        go_wp2
        go_ret2
        exact ⟨by have := ET.out; subst this; rfl, hB1⟩
      · have hini : ¬ (i : Int) < (n : Int) := by omega
        have ht := HT.out
        rw [decide_eq_false hin, Bool.false_and] at ht
        subst ht
        clear HCM HI HT
        go_wp2
        go_ret2
        exact ⟨rfl, hB⟩
theorem thr_nil (k : Int) : thr [] k = false := rfl
theorem low_nil (k : Int) : low [] k = 0 := rfl
set_option maxRecDepth 100000 in
set_option maxHeartbeats 1000000 in
theorem binarySearch_any (v : Value) (l : Prl) (k : Int) (w : World) (hv : Prs w v l) (hl : l.length ≤ 12) (hr : Ris l) :
    Calls Try.prog 117 #[v, .int .i64 k, .func (.func 118) #[] #[]] w fun e w' => e = .returned (.tuple #[.int .i64 (low l k : Nat), .bool (thr l k)]) ∧ Below w.heap.size w w' := by
  obtain ⟨a, c, rfl⟩ := hv.shape
  by_cases h0 : 0 < l.length
  · obtain ⟨_, b, off, rfl, hb, hc⟩ := hv.at h0
    exact binarySearch_core b off c l.length l k w rfl hl hb hr hc
  · have e1 : l = [] := List.eq_nil_of_length_eq_zero (by omega)
    subst e1
    rw [thr_nil, low_nil]
    simp only [List.length_nil]
    clear hv h0 hl hr
    go_enter Try.func117, Try.ntmps117
    go_wp2
    refine wp_loop_rounds 1 ?_; rw [rounds_succ]
    go_wp2
    go_ret2
    exact ⟨rfl, Below.refl _ _⟩
set_option maxRecDepth 100000 in
set_option maxHeartbeats 1000000 in
theorem placeOf_any (v : Value) (l : Prl) (k : Int) (w : World) (hv : Prs w v l) (hl : l.length ≤ 12) (hr : Ris l) :
    Calls Try.prog 92 #[v, .int .i64 k] w fun e w' => e = .returned (.tuple #[.int .i64 (low l k : Nat), .bool (thr l k)]) ∧ Below w.heap.size w w' := by
  have hB := binarySearch_any v l k w hv hl hr
  obtain ⟨a, c, rfl⟩ := hv.shape
  generalize thr l k = th at *
  generalize low l k = lo at *
  generalize l.length = n at *
  clear hv hr
  go_enter Try.func92, Try.ntmps92
  go_wp2_with fail
  refine hB.mono ?_
  rintro e w1 ⟨rfl, hb1⟩
  clear hB
  go_wp2
  go_ret2
  exact ⟨rfl, hb1⟩
end U
end Go.Proofs.Ytdcfoggcepkelaa

/- FindSlot, by the program and by the model. -/
namespace Go.Proofs.Ytdcfoggcepkelaa
open Go.RowKit
namespace U
set_option maxRecDepth 100000 in
set_option maxHeartbeats 1000000 in
theorem l4At_any (v : Value) (l : Prl) (k : Int) (w : World) (hv : Prs w v l) (hl : l.length ≤ 12) (hr : Ris l) :
    Calls Try.prog 111 #[v, .int .i64 k] w fun e w' => e = .returned (.int .i64 (if thr l k = true then (low l k : Nat) else (-1 : Int))) ∧ w' = w := by
  have HV : Hid (Prs w v l) := hv
  obtain ⟨a, c, rfl⟩ := hv.shape
  have HF : Hid (∀ i, i < l.length → (pAt l i).1 = k → (if thr l k = true then ((low l k : Nat) : Int) else -1) = (i : Int)) := fun i hi e => by
    have h1 := at_low hr hi e
    rw [if_pos ((thr_iff hr k).2 ⟨_, List.getElem_mem hi, by rw [← pAt_eq hi]; exact e⟩), ← h1]
  have HG : Hid ((∀ i, i < l.length → ¬ (pAt l i).1 = k) → (if thr l k = true then ((low l k : Nat) : Int) else -1) = -1) := fun h => by
    rw [if_neg]
    intro ht
    obtain ⟨p, hp, e⟩ := (thr_iff hr k).1 ht
    obtain ⟨i, hi, rfl⟩ := List.mem_iff_getElem.1 hp
    exact h i hi (by rw [pAt_eq hi]; exact e)
  generalize (if thr l k = true then ((low l k : Nat) : Int) else -1) = r at *
  obtain ⟨n, hn⟩ : ∃ n, n = l.length := ⟨_, rfl⟩
  have HN : Hid (n = l.length) := hn
  rw [← hn] at HV hl HF HG ⊢
  clear hv hr hn
  go_enter Try.func111, Try.ntmps111
  go_wp2
  go_loop [5] (fun i => ∃ j : Nat, j ≤ n ∧ i = .int .i64 j ∧ Hid (∀ i, i < j → ¬ (pAt l i).1 = k)) (fun i => n - (intOf i).toNat)
  case atStart => exact ⟨0, Nat.zero_le _, rfl, fun i hi => by omega⟩
  case round =>
    obtain ⟨j, hj, rfl, HJ⟩ := hrel
    by_cases hjn : j < n
    · have hji : (j : Int) < (n : Int) := by omega
      obtain ⟨-, b, off, rfl, hb, hc⟩ := HV.out.at (by have := HN.out; omega)
      have c0 := (hc j (by have := HN.out; omega)).1
      have HE := HF.out j hjn
      have HS : Hid (¬ (pAt l j).1 = k → ∀ i, i < j + 1 → ¬ (pAt l i).1 = k) := fun h i hi => by
        by_cases e : i = j
        · subst e; exact h
        · exact HJ.out i (by omega)
      generalize (pAt l j).1 = x at *
      clear hc
      by_cases e : x = k
      · have HR : Hid (r = (j : Int)) := HE e
        have eb : (x == k) = true := by simpa using e
        clear HE HF HG HS e
        go_wp2
        go_ret
        exact ⟨ret_int HR.out.symm, rfl⟩
      · have eb : (x == k) = false := by simpa using e
        have HS2 : Hid (∀ i, i < j + 1 → ¬ (pAt l i).1 = k) := HS.out e
        clear HE HF HG HS e
        go_wp2
        go_round
        case rel => exact ⟨j + 1, by omega, by go_num, HS2⟩
        case measure => simp [intOf]; omega
    · have hjn : j = n := by omega
      subst hjn
      have HR : Hid (r = -1) := HG.out HJ.out
      clear HF HG
      go_wp2
      go_ret
      exact ⟨ret_int HR.out.symm, rfl⟩
/-- The code and the value of a slot that is looked for. -/
def fsC (l : Prl) (k : Int) : Int := if slF l = 0 then (if thr l k = true then 0 else 4) else slF l
def fsV (l : Prl) (k : Int) : Int := if slF l = 0 ∧ thr l k = true then (pAt l (low l k)).2 else 0
theorem thr_lt {l : Prl} {k : Int} (h : thr l k = true) : low l k < l.length := by
  unfold thr at h
  rw [Bool.and_eq_true] at h
  exact of_decide_eq_true h.1
set_option maxRecDepth 100000 in
set_option maxHeartbeats 2000000 in
theorem implFindSlot_any (v : Value) (l : Prl) (k : Int) (w : World) (hv : Prs w v l) (hx : l.length ≤ 1099511627776) :
    Calls Try.prog 36 #[v, .int .i64 k] w fun e w' => IntAns w (fsC l k) (fsV l k) e w' := by
  have hF := fun w' h => implSlotsFault_any v l w' (hv.below h) hx
  unfold fsC fsV
  by_cases h0 : slF l = 0
  · have hs := slF_ok h0
    have hP := fun w' h => placeOf_any v l k w' (hv.below h) hs.len hs.ris
    rw [if_pos h0]
    rw [h0] at hF
    have hln := hs.len
    by_cases ht : thr l k = true
    · rw [if_pos ht, if_pos ⟨h0, ht⟩]
      have hlt := thr_lt ht
      rw [ht] at hP
      obtain ⟨ad, c, rfl⟩ := hv.shape
      obtain ⟨-, b, off, rfl, hb, hc⟩ := hv.at (by omega)
      have hcl := (hc _ hlt).2
      generalize (pAt l (low l k)).2 = x at *
      generalize low l k = lo at *
      generalize l.length = n at *
      have hli : (lo : Int) < (n : Int) := by omega
      clear hv h0 hs hc ht
      go_enter Try.func36, Try.ntmps36
      go_wp2_with fail
      refine (hF _ (one_new _)).mono ?_
      rintro e w1 ⟨rfl, hb1⟩
      clear hF
      go_wp2_with fail
      refine (hP _ (below_after hb1)).mono ?_
      rintro e w2 ⟨rfl, hb2⟩
      have hb2' := below_after_of hb1 hb2
      have hB2 := below_after hb2'
      have hc2 := (hB2.cell (p := ⟨b, off + lo * 2 + 1, none⟩) hb).trans hcl
      obtain ⟨g0, g1, f0, f1⟩ := two_cellsV ((hb2'.block w.heap.size (by simp)).trans (heap_alloc_new w _))
      clear hP hb1 hb2 hb2' hcl
      go_wp2
      exact bodyPost_ret (v := .agg #[.int .i64 0, .int .i64 x]) (by simp [results, Try.results36, go_sem, *]) rfl ⟨rfl, (hB2.setCell (by simp) _).setCell (by simp) _⟩
    · have ht : thr l k = false := by simpa using ht
      rw [if_neg (by rw [ht]; simp), if_neg (by rw [ht]; simp)]
      rw [ht] at hP
      obtain ⟨ad, c, rfl⟩ := hv.shape
      generalize low l k = lo at *
      generalize l.length = n at *
      clear hv h0 hs ht
      go_enter Try.func36, Try.ntmps36
      go_wp2_with fail
      refine (hF _ (one_new _)).mono ?_
      rintro e w1 ⟨rfl, hb1⟩
      clear hF
      go_wp2_with fail
      refine (hP _ (below_after hb1)).mono ?_
      rintro e w2 ⟨rfl, hb2⟩
      have hb2' := below_after_of hb1 hb2
      have hB2 := below_after hb2'
      obtain ⟨g0, g1, f0, f1⟩ := two_cellsV ((hb2'.block w.heap.size (by simp)).trans (heap_alloc_new w _))
      clear hP hb1 hb2 hb2'
      go_wp2
      exact bodyPost_ret (v := .agg #[.int .i64 4, .int .i64 0]) (by simp [results, Try.results36, go_sem, *]) rfl ⟨rfl, (hB2.setCell (by simp) _).setCell (by simp) _⟩
  · rw [if_neg h0, if_neg (fun h => h0 h.1)]
    obtain ⟨ad, c, rfl⟩ := hv.shape
    generalize slF l = f at *
    generalize l.length = n at *
    have hfn : (f != 0) = true := by simpa using h0
    clear hv h0
    go_enter Try.func36, Try.ntmps36
    go_wp2_with fail
    refine (hF _ (one_new _)).mono ?_
    rintro e w1 ⟨rfl, hb1⟩
    obtain ⟨g0, g1, f0, f1⟩ := two_cellsV ((hb1.block w.heap.size (by simp)).trans (heap_alloc_new w _))
    have hB1 := below_after hb1
    clear hF hb1
    go_wp2
    exact bodyPost_ret (v := .agg #[.int .i64 f, .int .i64 0]) (by simp [results, Try.results36, go_sem, *]) rfl ⟨rfl, (hB1.setCell (by simp) _).setCell (by simp) _⟩
end U
end Go.Proofs.Ytdcfoggcepkelaa

/- Answers of a code and slots: compared, marked and looked at anew. -/
namespace Go.Proofs.Ytdcfoggcepkelaa
open Go.RowKit
namespace U
def mkP (k n : Nat) : Prl := (List.range n).map fun j => (((k + j * 2 : Nat) : Int), ((k + (j * 2 + 1) : Nat) : Int))
theorem mkP_len (k n : Nat) : (mkP k n).length = n := by simp [mkP]
theorem mkP_at (k n j : Nat) (h : j < n) : pAt (mkP k n) j = (((k + j * 2 : Nat) : Int), ((k + (j * 2 + 1) : Nat) : Int)) := by
  rw [pAt_eq (by rw [mkP_len]; exact h)]
  simp [mkP]
theorem fl_mkP (k n : Nat) : fl (mkP k n) = marks k (n * 2) := by
  apply List.ext_getElem?
  intro i
  by_cases h : i < n * 2
  · have h1 := fl_at (mkP k n) (i / 2) (by rw [mkP_len]; omega)
    rw [mkP_at k n (i / 2) (by omega)] at h1
    have e : (marks k (n * 2))[i]? = some ((k + i : Nat) : Int) := by simp [marks, h]
    rw [e]
    rcases (by omega : i = i / 2 * 2 ∨ i = i / 2 * 2 + 1) with hh | hh
    · rw [hh, h1.1]
    · rw [hh, h1.2]
  · rw [List.getElem?_eq_none (by rw [fl_len, mkP_len]; omega), List.getElem?_eq_none (by rw [marks_len]; omega)]
theorem Prs.grown {w w' : World} {v : Value} {l : Prl} {row : Option Nat} (h : Prs w v l) (hg : w.grownBy w' row) (hne : v.ownBlock = none ∨ v.ownBlock ≠ row) : Prs w' v l := by
  rcases h with h | ⟨b, off, c, rfl, hlt, hc⟩
  · exact Or.inl h
  · have hnb : some b ≠ row := by
      rcases hne with hh | hh
      · simp [Value.ownBlock] at hh
      · exact hh
    exact Or.inr ⟨b, off, c, rfl, Nat.lt_of_lt_of_le hlt hg.size, fun j hj => ⟨hg.cell (hc j hj).1 hnb, hg.cell (hc j hj).2 hnb⟩⟩
theorem own_prs_n {w : World} {B n : Nat} {e : TypeId} {v : Value} {l : Prl} (HN : n = l.length) (h : w.ownsRow B e 2 v n ((fl l).map (Value.int .i64))) : Prs w v l := by
  subst HN; exact own_prs h
set_option maxRecDepth 100000 in
set_option maxHeartbeats 1000000 in
theorem markSlotS_any (B : Nat) (v : Value) (l : Prl) (k0 : Nat) (w : World) (hown : w.ownsRow B 119 2 v l.length ((fl l).map (Value.int .i64))) (hx : l.length ≤ 1099511627776) (hk0 : k0 ≤ 1099511627776) :
    Calls Try.prog 52 #[v, .int .i64 k0] w fun e w' => e = .returned (.int .i64 ((k0 + l.length * 2 : Nat) : Int)) ∧ w.grownBy w' v.ownBlock ∧ w'.ownsRow B 119 2 v l.length ((fl (mkP k0 l.length)).map (Value.int .i64)) := by
  by_cases h0 : l.length = 0
  · have e1 : l = [] := List.eq_nil_of_length_eq_zero h0
    subst e1
    obtain ⟨a, c, rfl⟩ : ∃ a c, v = .slice a 0 c := by
      rcases hown.2 with ⟨rfl, hn⟩ | ⟨g, cap, cur, rfl, _⟩
      · exact ⟨none, 0, rfl⟩
      · exact ⟨_, _, rfl⟩
    simp only [List.length_nil] at *
    go_enter Try.func52, Try.ntmps52
    go_wp2
    refine wp_loop_rounds 1 ?_; rw [rounds_succ]
    go_wp2
    go_ret
    exact ⟨rfl, World.grownBy.refl _ _, hown⟩
  · rcases hown.2 with ⟨_, h⟩ | ⟨g, cap, cur, rfl, hB, hg, _⟩
    · exact absurd h h0
    have hgs : g < w.heap.size := (Array.getElem?_eq_some_iff.1 hg).1
    have hfl := fl_len l
    have hml : fl (mkP k0 l.length) = marks k0 (fl l).length := by rw [fl_mkP, hfl]
    rw [hml]
    clear hg hB hml
    obtain ⟨n, hn⟩ : ∃ n, n = l.length := ⟨_, rfl⟩
    have HN : Hid ((fl l).length = n * 2) := by show _ = _; rw [hn]; exact hfl
    rw [← hn] at hown hx h0 ⊢
    generalize fl l = xs at *
    clear hn h0 hfl
    go_enter Try.func52, Try.ntmps52
    go_wp2
    go_loopw [1, 5] (fun k i wr => ∃ j : Nat, j ≤ n ∧ i = .int .i64 j ∧ k = .int .i64 ((k0 + j * 2 : Nat) : Int) ∧ w.grownBy wr (some g) ∧ wr.ownsRow B 119 2 (.slice (some ⟨g, 0, none⟩) n cap) n ((half xs k0 (j * 2)).map (Value.int .i64))) (fun _ i _ => n - (intOf i).toNat)
    case atStart => exact ⟨0, Nat.zero_le _, rfl, by simp, World.grownBy.refl _ _, by rw [Nat.zero_mul, half_zero]; exact hown⟩
    case round =>
      obtain ⟨j, hj, rfl, rfl, hgr, ho⟩ := hrel
      by_cases hjn : j < n
      · have hji : (j : Int) < (n : Int) := by omega
        have f0 := ho.frozenAt (j * 2)
        have f1 := ho.frozenAt (j * 2 + 1)
        obtain ⟨x, c0⟩ := own_some2 ho (j := j * 2) (by omega)
        obtain ⟨y, c1⟩ := own_some2 ho (j := j * 2 + 1) (by omega)
        obtain ⟨s1, s2⟩ := ho.stored (j * 2) (.int .i64 ((k0 + j * 2 : Nat) : Int))
        obtain ⟨s3, s4⟩ := s1.stored (j * 2 + 1) (.int .i64 ((k0 + (j * 2 + 1) : Nat) : Int))
        have s5 := grown_trans (grown_trans hgr s2) s4
        rw [← List.map_set, half_set xs k0 (j * 2) (by have := HN.out; omega), ← List.map_set, half_set xs k0 (j * 2 + 1) (by have := HN.out; omega)] at s3
        have e5 : (((k0 + j * 2 : Nat) : Int) + 1) = ((k0 + (j * 2 + 1) : Nat) : Int) := by omega
        have H3 : Hid (((wr.setCell ⟨g, j * 2, none⟩ (.int .i64 ((k0 + j * 2 : Nat) : Int))).setCell ⟨g, j * 2 + 1, none⟩ (.int .i64 ((k0 + (j * 2 + 1) : Nat) : Int))).ownsRow B 119 2 (.slice (some ⟨g, 0, none⟩) n cap) n ((half xs k0 (j * 2 + 1 + 1)).map (Value.int .i64)) ∧ w.grownBy ((wr.setCell ⟨g, j * 2, none⟩ (.int .i64 ((k0 + j * 2 : Nat) : Int))).setCell ⟨g, j * 2 + 1, none⟩ (.int .i64 ((k0 + (j * 2 + 1) : Nat) : Int))) (some g)) := ⟨s3, s5⟩
        rw [← e5] at H3
        clear ho hown hgr s1 s2 s3 s4 s5 e5
        go_wp2
        go_roundw
        case rel =>
          exact ⟨j + 1, by omega, by go_num, by go_num, by simpa using H3.out.2, by rw [show (j + 1) * 2 = j * 2 + 1 + 1 by omega]; simpa using H3.out.1⟩
        case measure => simp [intOf]; omega
      · have hjn : j = n := by omega
        subst hjn
        rw [← HN.out, half_all] at ho
        go_wp2
        go_ret
        exact ⟨rfl, hgr, ho⟩
end U
end Go.Proofs.Ytdcfoggcepkelaa

/- What is cut out of slots, by the program; CutSlots. -/
namespace Go.Proofs.Ytdcfoggcepkelaa
open Go.RowKit
namespace U
/-- The answer of a function that hands back a code and slots of its own. -/
def SlotsAns (w : World) (code : Int) (l : Prl) (e : Ending) (w' : World) : Prop :=
  Below w.heap.size w w' ∧ ∃ v, e = .returned (.agg #[.int .i64 code, v]) ∧ w'.ownsRow w.heap.size 119 2 v l.length ((fl l).map (Value.int .i64))
theorem SlotsAns.use {w w' : World} {code : Int} {l : Prl} {e : Ending} (h : SlotsAns w code l e w') : ∃ a c, e = .returned (.agg #[.int .i64 code, .slice a l.length c]) ∧ Below w.heap.size w w' ∧ w'.ownsRow w.heap.size 119 2 (.slice a l.length c) l.length ((fl l).map (Value.int .i64)) := by
  obtain ⟨hb, v, rfl, ho⟩ := h
  obtain ⟨a, c, rfl⟩ := own_shape2 ho
  exact ⟨a, c, rfl, hb, ho⟩
/-- A slice value as it may be: no more in it than it has room for; without an address there is no room. -/
def Okv (v : Value) : Prop := ∀ a n c, v = .slice a n c → n ≤ c ∧ (a = none → c = 0)
theorem own_okv {w : World} {B : Nat} {e : TypeId} {v : Value} {m : Nat} {xs : List Value} (h : w.ownsRow B e 2 v m xs) : Okv v := by
  intro a n c hv
  subst hv
  rcases h.2 with ⟨h1, _⟩ | ⟨g, cap, cur, h1, _, _, hc, _⟩
  · cases h1; exact ⟨by omega, fun _ => rfl⟩
  · cases h1; exact ⟨hc, fun h => by cases h⟩
/-- Slots between two keys: it shares memory with the list. -/
theorem prs_part {w : World} {b off n c i j : Nat} {l : Prl} (hn : n = l.length) (hb : b < w.heap.size) (hij : i ≤ j) (hj : j ≤ n)
    (hc : ∀ j, j < n → w.cell? ⟨b, off + j * 2, none⟩ = some (.int .i64 (pAt l j).1) ∧ w.cell? ⟨b, off + j * 2 + 1, none⟩ = some (.int .i64 (pAt l j).2)) :
    Prs w (.slice (some ⟨b, off + i * 2, none⟩) (j - i) c) ((l.take j).drop i) := by
  right
  have hl : ((l.take j).drop i).length = j - i := by rw [List.length_drop, List.length_take]; omega
  refine ⟨b, off + i * 2, c, by rw [hl], hb, fun k hk => ?_⟩
  rw [hl] at hk
  have h1 := hc (i + k) (by omega)
  have e : pAt ((l.take j).drop i) k = pAt l (i + k) := by
    unfold pAt
    rw [List.getD_eq_getElem?_getD, List.getD_eq_getElem?_getD, List.getElem?_drop, List.getElem?_take, if_pos (by omega)]
  rw [e, show off + i * 2 + k * 2 = off + (i + k) * 2 by omega]
  exact h1
set_option maxRecDepth 100000 in
set_option maxHeartbeats 2000000 in
theorem slotsBetween_any (v : Value) (l : Prl) (a b : Int) (w : World) (hv : Prs w v l) (hcap : Okv v) (hl : l.length ≤ 12) (hr : Ris l) (hab : a ≤ b) :
    Calls Try.prog 79 #[v, .int .i64 a, .int .i64 b] w fun e w' => (∃ ad c, e = .returned (.slice ad (cut l a b).length c) ∧ Prs w (.slice ad (cut l a b).length c) (cut l a b) ∧ Okv (.slice ad (cut l a b).length c)) ∧ Below w.heap.size w w' := by
  have hP1 := fun w' h => placeOf_any v l a w' (hv.below h) hl hr
  have hP2 := fun w' h => placeOf_any v l b w' (hv.below h) hl hr
  have hm := low_mono l hab
  have hle := low_le l b
  have hce := cut_eq hr a b
  have hlen : (cut l a b).length = low l b - low l a := by rw [hce, List.length_drop, List.length_take]; omega
  obtain ⟨ad, c, rfl⟩ := hv.shape
  have hcp := (hcap _ _ _ rfl).1
  have HNC : Hid (ad = none → c = 0) := (hcap _ _ _ rfl).2
  have HV : Hid (Prs w (.slice ad l.length c) l) := hv
  have HPT : Hid (∀ bk off cc, ad = some ⟨bk, off, none⟩ → 0 < l.length → Prs w (.slice (some ⟨bk, off + low l a * 2, none⟩) (low l b - low l a) cc) (cut l a b)) := fun bk off cc e h0 => by
    subst e
    obtain ⟨_, b', off', e', hb', hc'⟩ := hv.at h0
    cases e'
    rw [hce]
    exact prs_part rfl hb' hm hle hc'
  have HL : Hid ((cut l a b).length = low l b - low l a) := hlen
  have HN : Hid (low l b - low l a = 0 → cut l a b = []) := fun h => List.eq_nil_of_length_eq_zero (by rw [hlen]; exact h)
  have hadr : 0 < l.length → ∃ bk off, ad = some ⟨bk, off, none⟩ := fun h0 => by
    obtain ⟨_, b', off', e', _⟩ := hv.at h0
    exact ⟨b', off', e'⟩
  rw [hlen]
  generalize cut l a b = m at *
  generalize low l b = j at *
  generalize low l a = i at *
  generalize thr l a = t1 at *
  generalize thr l b = t2 at *
  generalize l.length = n at *
  clear hv hr hcap hce hlen hab
  have hij : (i : Int) ≤ (j : Int) := by omega
  have hjc : (j : Int) ≤ (c : Int) := by omega
  have hjn : (j : Int) ≤ (n : Int) := by omega
  by_cases h0 : 0 < n
  · obtain ⟨bk, off, rfl⟩ := hadr h0
    clear hadr
    by_cases hci : c = i
    · have hji : j - i = 0 := by omega
      have HM : Hid (m = []) := HN.out hji
      have hij2 : j = i := by omega
      subst hij2 hci
      go_enter Try.func79, Try.ntmps79
      go_wp2_with fail
      refine (hP1 _ (Below.refl _ _)).mono ?_
      rintro e w1 ⟨rfl, hb1⟩
      clear hP1
      go_wp2_with fail
      refine (hP2 _ hb1).mono ?_
      rintro e w2 ⟨rfl, hb2⟩
      have hB2 := below_after_of hb1 hb2
      clear hP2 hb1 hb2
      go_wp2
      go_ret
      exact ⟨⟨_, _, by rw [Nat.sub_self]; rfl, Or.inl ⟨HM.out, _, _, by rw [Nat.sub_self]⟩, fun _ _ _ h => by cases h; exact ⟨by omega, fun h => by cases h⟩⟩, hB2⟩
    · have HPX := HPT.out bk off (c - i) rfl h0
      have HPX : Hid (Prs w (.slice (some ⟨bk, off + i * 2, none⟩) (j - i) (c - i)) m) := HPX
      clear HPT
      go_enter Try.func79, Try.ntmps79
      go_wp2_with fail
      refine (hP1 _ (Below.refl _ _)).mono ?_
      rintro e w1 ⟨rfl, hb1⟩
      clear hP1
      go_wp2_with fail
      refine (hP2 _ hb1).mono ?_
      rintro e w2 ⟨rfl, hb2⟩
      have hB2 := below_after_of hb1 hb2
      clear hP2 hb1 hb2
      go_wp2
      go_ret
      exact ⟨⟨_, _, rfl, HPX.out, fun _ _ _ h => by cases h; exact ⟨by omega, fun h => by cases h⟩⟩, hB2⟩
  · have hj0 : j = 0 := by omega
    have hi0 : i = 0 := by omega
    have hn0 : n = 0 := by omega
    subst hj0 hi0 hn0
    have HM : Hid (m = []) := HN.out rfl
    clear hadr HPT HN HV
    rcases ad with _ | ad
    · have hc0 := HNC.out rfl
      subst hc0
      clear HNC
      go_enter Try.func79, Try.ntmps79
      go_wp2_with fail
      refine (hP1 _ (Below.refl _ _)).mono ?_
      rintro e w1 ⟨rfl, hb1⟩
      clear hP1
      go_wp2_with fail
      refine (hP2 _ hb1).mono ?_
      rintro e w2 ⟨rfl, hb2⟩
      have hB2 := below_after_of hb1 hb2
      clear hP2 hb1 hb2
      go_wp2
      go_ret
      exact ⟨⟨_, _, rfl, Or.inl ⟨HM.out, _, _, rfl⟩, fun _ _ _ h => by cases h; exact ⟨by omega, fun _ => rfl⟩⟩, hB2⟩
    · go_enter Try.func79, Try.ntmps79
      go_wp2_with fail
      refine (hP1 _ (Below.refl _ _)).mono ?_
      rintro e w1 ⟨rfl, hb1⟩
      clear hP1
      go_wp2_with fail
      refine (hP2 _ hb1).mono ?_
      rintro e w2 ⟨rfl, hb2⟩
      have hB2 := below_after_of hb1 hb2
      clear hP2 hb1 hb2
      go_wp2
      go_ret
      exact ⟨⟨_, _, rfl, Or.inl ⟨HM.out, _, _, rfl⟩, fun _ _ _ h => by cases h; exact ⟨by omega, fun h => by cases h⟩⟩, hB2⟩
/-- The code and the slots that are cut out. -/
def cutB (a b : Int) : Bool := inB a 0 256 && inB b a 256
def csC (l : Prl) (a b : Int) : Int := if slF l = 0 then (if cutB a b = true then 0 else 3) else slF l
def csL (l : Prl) (a b : Int) : Prl := if slF l = 0 ∧ cutB a b = true then cut l a b else []
theorem csL_len (l : Prl) (a b : Int) : (csL l a b).length ≤ l.length := by
  unfold csL
  split
  · exact cut_len _ _ _
  · simp
theorem pair_cells {w : World} {g : Nat} {x y : Value} {t : TypeId} : w.heap[g]? = some (.cells #[x, y] t) → w.cell? ⟨g, 0, none⟩ = some x ∧ w.cell? ⟨g, 1, none⟩ = some y ∧ w.frozen? ⟨g, 0, none⟩ = false ∧ w.frozen? ⟨g, 1, none⟩ = false := two_cellsV
theorem prs_news {w : World} {ad : Addr} {m c : Nat} {l : Prl} (h : Prs w (.slice (some ad) m c) l) : ∀ j u, ((fl l).map (Value.int .i64))[j]? = some u → w.cell? (ad.add j) = some u := by
  intro j u hu
  have hj : j < l.length * 2 := by
    have := (List.getElem?_eq_some_iff.1 hu).1
    rwa [List.length_map, fl_len] at this
  obtain ⟨_, b, off, e, hb, hc⟩ := h.at (by omega)
  cases e
  have h1 := hc (j / 2) (by omega)
  have h2 := fl_at l (j / 2) (by omega)
  rw [List.getElem?_map] at hu
  rw [Go.WideShapes.add_plain]
  rcases (by omega : j = j / 2 * 2 ∨ j = j / 2 * 2 + 1) with e | e
  · rw [e, h2.1] at hu
    rw [show off + j = off + j / 2 * 2 by omega, h1.1]
    exact hu
  · rw [e, h2.2] at hu
    rw [show off + j = off + j / 2 * 2 + 1 by omega, h1.2]
    exact hu
end U
end Go.Proofs.Ytdcfoggcepkelaa

/- The path of a key, by the model. -/
namespace Go.Proofs.Ytdcfoggcepkelaa
open Go.RowKit
namespace U
/-- The other side of a key at a level. -/
def sib (x : Int) (n : Nat) : Int := if x / (2 ^ n : Nat) % 2 = 0 then x / (2 ^ n : Nat) + 1 else x / (2 ^ n : Nat) - 1
/-- The first sums of a path. -/
def pth (l : Prl) (x : Int) : Nat → List Int
  | 0 => []
  | n + 1 => pth l x n ++ [nd l n (sib x n)]
theorem pth_len (l : Prl) (x : Int) (n : Nat) : (pth l x n).length = n := by
  induction n with
  | zero => rfl
  | succ n ih => unfold pth; simp [ih]
def opC (l : Prl) (x : Int) : Int := if slF l = 0 then (if inB x 0 255 = true then 0 else 3) else slF l
def opL (l : Prl) (x : Int) : List Int := if slF l = 0 ∧ inB x 0 255 = true then pth l x 8 else []
theorem opL_len (l : Prl) (x : Int) : (opL l x).length ≤ 8 := by
  unfold opL
  split
  · rw [pth_len]; omega
  · simp
theorem sib_even {x q : Int} {n : Nat} {S : Int} (hS : ((2 ^ n : Nat) : Int) = S) (hq : q = x / S) (h : q % 2 = 0) : sib x n = q + 1 := by
  unfold sib
  rw [hS, ← hq, if_pos h]
theorem sib_odd {x q : Int} {n : Nat} {S : Int} (hS : ((2 ^ n : Nat) : Int) = S) (hq : q = x / S) (h : ¬ q % 2 = 0) : sib x n = q - 1 := by
  unfold sib
  rw [hS, ← hq, if_neg h]
theorem own_one {w : World} {B : Nat} {e : TypeId} {v : Value} {zs : List Int} {b : Int} (h : w.ownsRow B e 1 v (zs.length + 1) (zs.map (Value.int .i64) ++ [.int .i64 b])) : w.ownsRow B e 1 v (zs ++ [b]).length ((zs ++ [b]).map (Value.int .i64)) := by
  rw [List.map_append, List.length_append]; exact h
theorem none_own1 (w : World) (e : TypeId) (B : Nat) (hB : B ≤ w.heap.size) : (w.alloc (.cells #[] e)).ownsRow B e 1 (.slice (some ⟨w.heap.size, 0, none⟩) 0 0) 0 [] :=
  World.ownsRow_made w #[] 0 hB (by decide) rfl
set_option maxRecDepth 100000 in
set_option maxHeartbeats 16000000 in
theorem l4Path_any (v : Value) (l : Prl) (x : Int) (w : World) (hv : Prs w v l) (hl : l.length ≤ 1048576) (hf : ∀ p ∈ l, fine p = true) (hx : 0 ≤ x ∧ x ≤ 255) :
    Calls Try.prog 91 #[v, .int .i64 x] w fun e w' => ∃ v', e = .returned v' ∧ w'.ownsRow w.heap.size 2 1 v' (pth l x 8).length ((pth l x 8).map (Value.int .i64)) ∧ Below w.heap.size w w' := by
  obtain ⟨i0, hi, hz0, hz1, hz2⟩ := info_parts Try.infoI64
  have HV : Hid (∀ w', Below w.heap.size w w' → Prs w' v l) := fun w' h => hv.below h
  obtain ⟨ad, c, rfl⟩ := hv.shape
  have HF : Hid (∀ p ∈ l, fine p = true) := hf
  have HL : Hid (l.length ≤ 1048576) := hl
  obtain ⟨n, hn⟩ : ∃ n, n = l.length := ⟨_, rfl⟩
  rw [← hn] at HV hl ⊢
  clear hv hf hn
  go_enter Try.func91, Try.ntmps91
  go_wp2
  go_loopw [5, 6] (fun u i wr => ∃ k : Nat, k ≤ 8 ∧ i = .int .i64 k ∧ Hid (Below w.heap.size w wr) ∧ Hid (wr.ownsRow w.heap.size 2 1 u (pth l x k).length ((pth l x k).map (Value.int .i64)))) (fun _ i _ => 8 - (intOf i).toNat)
  case atStart => exact ⟨0, Nat.zero_le _, rfl, one_new _, none_own1 w _ _ (Nat.le_refl _)⟩
  case round =>
    obtain ⟨k, hk, rfl, hB, ho⟩ := hrel
    have hlen : (pth l x k).length ≤ 8 := by rw [pth_len]; exact hk
    obtain ⟨K, hK⟩ : ∃ K : Int, K = (k : Int) := ⟨_, rfl⟩
    rw [← hK]
    by_cases hk8 : k < 8
    · have HS : Hid (pth l x (k + 1) = pth l x k ++ [nd l k (sib x k)]) := by show _ = _; rfl
      have ho2 := ho.out
      obtain ⟨a', c', rfl⟩ := own_shape ho2
      have hsz := hB.out.size
      generalize pth l x k = m at *
      clear ho
      rcases (by omega : (k = 0 ∧ K = 0) ∨ (k = 1 ∧ K = 1) ∨ (k = 2 ∧ K = 2) ∨ (k = 3 ∧ K = 3) ∨ (k = 4 ∧ K = 4) ∨ (k = 5 ∧ K = 5) ∨ (k = 6 ∧ K = 6) ∨ (k = 7 ∧ K = 7)) with ⟨rfl, rfl⟩ | ⟨rfl, rfl⟩ | ⟨rfl, rfl⟩ | ⟨rfl, rfl⟩ | ⟨rfl, rfl⟩ | ⟨rfl, rfl⟩ | ⟨rfl, rfl⟩ | ⟨rfl, rfl⟩
      · have HQ : Hid (x = x / 1) := by show _ = _; omega
        have e3 : x.tmod 2 = x % 2 := by rw [Int.tmod_eq_emod_of_nonneg (by omega)]
        clear hK hk hk8
        by_cases h2 : x % 2 = 0
        · skip
          have hN := fun w' h => l4Node_0 (.slice ad n c) l (x + 1) (x + 1) w' (HV.out w' h) HL.out HF.out (by show _ = _; omega) (by omega)
          have HSB : Hid (pth l x (0 + 1) = m ++ [nd l 0 (x + 1)]) := by
            show _ = _
            rw [HS.out, sib_even (S := 1) rfl HQ.out h2]
          generalize nd l 0 (x + 1) = y at *
          have h2b : (x % 2 == 0) = true := by simpa using h2
          clear HS h2
          go_wp2_with fail
          refine (hN _ hB.out).mono ?_
          rintro e w1 ⟨rfl, hb1⟩
          have hB1 := below_after_of hB.out hb1
          have ho1 := own_below ho2 hb1
          have hsz1 := hB1.size
          clear hN hb1 ho2
          go_wp2_with (at_builtin; refine wpList_append_own _ rfl _ _ 33 rfl w.heap.size 2 i0 (.int .i64 0) 1 8 Try.underlying33 hi hz0 hz1 hz2 rfl (by decide) _ _ _ rfl (ho1.alloc _) ⟨w1.heap.size, 0, none⟩ 1 1 [.int .i64 y] rfl rfl (World.news_of_block (heap_alloc_new _ _)) (ints_oneCell .i64 [y]) (by unfold maxLen; omega) (by omega) (by simp; omega) ?_)
          intro v2 w2 hown' hgrow _
          have hb2 : Below w.heap.size w w2 := (hB1.alloc (by omega) _).grown hgrow (by simp; omega) (fun k hk => (ho1.lt k hk).1)
          have own2 := own_one hown'
          clear hgrow hown' ho1
          go_wp2
          go_roundw
          case rel => exact ⟨0 + 1, by omega, by go_num, hb2, by rw [HSB.out]; exact own2⟩
          case measure => simp [intOf]
        · have hq1 : 1 ≤ x := by omega
          have hN := fun w' h => l4Node_0 (.slice ad n c) l (x - 1) (x - 1) w' (HV.out w' h) HL.out HF.out (by show _ = _; omega) (by omega)
          have HSB : Hid (pth l x (0 + 1) = m ++ [nd l 0 (x - 1)]) := by
            show _ = _
            rw [HS.out, sib_odd (S := 1) rfl HQ.out h2]
          generalize nd l 0 (x - 1) = y at *
          have h2b : (x % 2 == 0) = false := by simpa using h2
          clear HS h2
          go_wp2_with fail
          refine (hN _ hB.out).mono ?_
          rintro e w1 ⟨rfl, hb1⟩
          have hB1 := below_after_of hB.out hb1
          have ho1 := own_below ho2 hb1
          have hsz1 := hB1.size
          clear hN hb1 ho2
          go_wp2_with (at_builtin; refine wpList_append_own _ rfl _ _ 33 rfl w.heap.size 2 i0 (.int .i64 0) 1 8 Try.underlying33 hi hz0 hz1 hz2 rfl (by decide) _ _ _ rfl (ho1.alloc _) ⟨w1.heap.size, 0, none⟩ 1 1 [.int .i64 y] rfl rfl (World.news_of_block (heap_alloc_new _ _)) (ints_oneCell .i64 [y]) (by unfold maxLen; omega) (by omega) (by simp; omega) ?_)
          intro v2 w2 hown' hgrow _
          have hb2 : Below w.heap.size w w2 := (hB1.alloc (by omega) _).grown hgrow (by simp; omega) (fun k hk => (ho1.lt k hk).1)
          have own2 := own_one hown'
          clear hgrow hown' ho1
          go_wp2
          go_roundw
          case rel => exact ⟨0 + 1, by omega, by go_num, hb2, by rw [HSB.out]; exact own2⟩
          case measure => simp [intOf]
      · obtain ⟨q, hq⟩ : ∃ q : Int, q = x / 2 := ⟨_, rfl⟩
        have HQ : Hid (q = x / 2) := hq
        have hqb : 0 ≤ q ∧ q * 2 ≤ 255 := by omega
        have e1 : x.tdiv 2 = q := by rw [Int.tdiv_eq_ediv_of_nonneg (by omega)]; exact hq.symm
        have e2 : (q * 2).tdiv 2 = q := Int.mul_tdiv_cancel q (by omega)
        have e3 : q.tmod 2 = q % 2 := by rw [Int.tmod_eq_emod_of_nonneg (by omega)]
        clear hq hK hk hk8
        by_cases h2 : q % 2 = 0
        · skip
          have hN := fun w' h => l4Node_1 (.slice ad n c) l (q * 2 + 2) (q + 1) w' (HV.out w' h) HL.out HF.out (by show _ = _; omega) (by omega)
          have HSB : Hid (pth l x (1 + 1) = m ++ [nd l 1 (q + 1)]) := by
            show _ = _
            rw [HS.out, sib_even (S := 2) rfl HQ.out h2]
          generalize nd l 1 (q + 1) = y at *
          have h2b : (q % 2 == 0) = true := by simpa using h2
          clear HS h2
          go_wp2_with fail
          refine (hN _ hB.out).mono ?_
          rintro e w1 ⟨rfl, hb1⟩
          have hB1 := below_after_of hB.out hb1
          have ho1 := own_below ho2 hb1
          have hsz1 := hB1.size
          clear hN hb1 ho2
          go_wp2_with (at_builtin; refine wpList_append_own _ rfl _ _ 33 rfl w.heap.size 2 i0 (.int .i64 0) 1 8 Try.underlying33 hi hz0 hz1 hz2 rfl (by decide) _ _ _ rfl (ho1.alloc _) ⟨w1.heap.size, 0, none⟩ 1 1 [.int .i64 y] rfl rfl (World.news_of_block (heap_alloc_new _ _)) (ints_oneCell .i64 [y]) (by unfold maxLen; omega) (by omega) (by simp; omega) ?_)
          intro v2 w2 hown' hgrow _
          have hb2 : Below w.heap.size w w2 := (hB1.alloc (by omega) _).grown hgrow (by simp; omega) (fun k hk => (ho1.lt k hk).1)
          have own2 := own_one hown'
          clear hgrow hown' ho1
          go_wp2
          go_roundw
          case rel => exact ⟨1 + 1, by omega, by go_num, hb2, by rw [HSB.out]; exact own2⟩
          case measure => simp [intOf]
        · have hq1 : 1 ≤ q := by omega
          have hN := fun w' h => l4Node_1 (.slice ad n c) l (q * 2 - 2) (q - 1) w' (HV.out w' h) HL.out HF.out (by show _ = _; omega) (by omega)
          have HSB : Hid (pth l x (1 + 1) = m ++ [nd l 1 (q - 1)]) := by
            show _ = _
            rw [HS.out, sib_odd (S := 2) rfl HQ.out h2]
          generalize nd l 1 (q - 1) = y at *
          have h2b : (q % 2 == 0) = false := by simpa using h2
          clear HS h2
          go_wp2_with fail
          refine (hN _ hB.out).mono ?_
          rintro e w1 ⟨rfl, hb1⟩
          have hB1 := below_after_of hB.out hb1
          have ho1 := own_below ho2 hb1
          have hsz1 := hB1.size
          clear hN hb1 ho2
          go_wp2_with (at_builtin; refine wpList_append_own _ rfl _ _ 33 rfl w.heap.size 2 i0 (.int .i64 0) 1 8 Try.underlying33 hi hz0 hz1 hz2 rfl (by decide) _ _ _ rfl (ho1.alloc _) ⟨w1.heap.size, 0, none⟩ 1 1 [.int .i64 y] rfl rfl (World.news_of_block (heap_alloc_new _ _)) (ints_oneCell .i64 [y]) (by unfold maxLen; omega) (by omega) (by simp; omega) ?_)
          intro v2 w2 hown' hgrow _
          have hb2 : Below w.heap.size w w2 := (hB1.alloc (by omega) _).grown hgrow (by simp; omega) (fun k hk => (ho1.lt k hk).1)
          have own2 := own_one hown'
          clear hgrow hown' ho1
          go_wp2
          go_roundw
          case rel => exact ⟨1 + 1, by omega, by go_num, hb2, by rw [HSB.out]; exact own2⟩
          case measure => simp [intOf]
      · obtain ⟨q, hq⟩ : ∃ q : Int, q = x / 4 := ⟨_, rfl⟩
        have HQ : Hid (q = x / 4) := hq
        have hqb : 0 ≤ q ∧ q * 4 ≤ 255 := by omega
        have e1 : x.tdiv 4 = q := by rw [Int.tdiv_eq_ediv_of_nonneg (by omega)]; exact hq.symm
        have e2 : (q * 4).tdiv 4 = q := Int.mul_tdiv_cancel q (by omega)
        have e3 : q.tmod 2 = q % 2 := by rw [Int.tmod_eq_emod_of_nonneg (by omega)]
        clear hq hK hk hk8
        by_cases h2 : q % 2 = 0
        · skip
          have hN := fun w' h => l4Node_2 (.slice ad n c) l (q * 4 + 4) (q + 1) w' (HV.out w' h) HL.out HF.out (by show _ = _; omega) (by omega)
          have HSB : Hid (pth l x (2 + 1) = m ++ [nd l 2 (q + 1)]) := by
            show _ = _
            rw [HS.out, sib_even (S := 4) rfl HQ.out h2]
          generalize nd l 2 (q + 1) = y at *
          have h2b : (q % 2 == 0) = true := by simpa using h2
          clear HS h2
          go_wp2_with fail
          refine (hN _ hB.out).mono ?_
          rintro e w1 ⟨rfl, hb1⟩
          have hB1 := below_after_of hB.out hb1
          have ho1 := own_below ho2 hb1
          have hsz1 := hB1.size
          clear hN hb1 ho2
          go_wp2_with (at_builtin; refine wpList_append_own _ rfl _ _ 33 rfl w.heap.size 2 i0 (.int .i64 0) 1 8 Try.underlying33 hi hz0 hz1 hz2 rfl (by decide) _ _ _ rfl (ho1.alloc _) ⟨w1.heap.size, 0, none⟩ 1 1 [.int .i64 y] rfl rfl (World.news_of_block (heap_alloc_new _ _)) (ints_oneCell .i64 [y]) (by unfold maxLen; omega) (by omega) (by simp; omega) ?_)
          intro v2 w2 hown' hgrow _
          have hb2 : Below w.heap.size w w2 := (hB1.alloc (by omega) _).grown hgrow (by simp; omega) (fun k hk => (ho1.lt k hk).1)
          have own2 := own_one hown'
          clear hgrow hown' ho1
          go_wp2
          go_roundw
          case rel => exact ⟨2 + 1, by omega, by go_num, hb2, by rw [HSB.out]; exact own2⟩
          case measure => simp [intOf]
        · have hq1 : 1 ≤ q := by omega
          have hN := fun w' h => l4Node_2 (.slice ad n c) l (q * 4 - 4) (q - 1) w' (HV.out w' h) HL.out HF.out (by show _ = _; omega) (by omega)
          have HSB : Hid (pth l x (2 + 1) = m ++ [nd l 2 (q - 1)]) := by
            show _ = _
            rw [HS.out, sib_odd (S := 4) rfl HQ.out h2]
          generalize nd l 2 (q - 1) = y at *
          have h2b : (q % 2 == 0) = false := by simpa using h2
          clear HS h2
          go_wp2_with fail
          refine (hN _ hB.out).mono ?_
          rintro e w1 ⟨rfl, hb1⟩
          have hB1 := below_after_of hB.out hb1
          have ho1 := own_below ho2 hb1
          have hsz1 := hB1.size
          clear hN hb1 ho2
          go_wp2_with (at_builtin; refine wpList_append_own _ rfl _ _ 33 rfl w.heap.size 2 i0 (.int .i64 0) 1 8 Try.underlying33 hi hz0 hz1 hz2 rfl (by decide) _ _ _ rfl (ho1.alloc _) ⟨w1.heap.size, 0, none⟩ 1 1 [.int .i64 y] rfl rfl (World.news_of_block (heap_alloc_new _ _)) (ints_oneCell .i64 [y]) (by unfold maxLen; omega) (by omega) (by simp; omega) ?_)
          intro v2 w2 hown' hgrow _
          have hb2 : Below w.heap.size w w2 := (hB1.alloc (by omega) _).grown hgrow (by simp; omega) (fun k hk => (ho1.lt k hk).1)
          have own2 := own_one hown'
          clear hgrow hown' ho1
          go_wp2
          go_roundw
          case rel => exact ⟨2 + 1, by omega, by go_num, hb2, by rw [HSB.out]; exact own2⟩
          case measure => simp [intOf]
      · obtain ⟨q, hq⟩ : ∃ q : Int, q = x / 8 := ⟨_, rfl⟩
        have HQ : Hid (q = x / 8) := hq
        have hqb : 0 ≤ q ∧ q * 8 ≤ 255 := by omega
        have e1 : x.tdiv 8 = q := by rw [Int.tdiv_eq_ediv_of_nonneg (by omega)]; exact hq.symm
        have e2 : (q * 8).tdiv 8 = q := Int.mul_tdiv_cancel q (by omega)
        have e3 : q.tmod 2 = q % 2 := by rw [Int.tmod_eq_emod_of_nonneg (by omega)]
        clear hq hK hk hk8
        by_cases h2 : q % 2 = 0
        · skip
          have hN := fun w' h => l4Node_3 (.slice ad n c) l (q * 8 + 8) (q + 1) w' (HV.out w' h) HL.out HF.out (by show _ = _; omega) (by omega)
          have HSB : Hid (pth l x (3 + 1) = m ++ [nd l 3 (q + 1)]) := by
            show _ = _
            rw [HS.out, sib_even (S := 8) rfl HQ.out h2]
          generalize nd l 3 (q + 1) = y at *
          have h2b : (q % 2 == 0) = true := by simpa using h2
          clear HS h2
          go_wp2_with fail
          refine (hN _ hB.out).mono ?_
          rintro e w1 ⟨rfl, hb1⟩
          have hB1 := below_after_of hB.out hb1
          have ho1 := own_below ho2 hb1
          have hsz1 := hB1.size
          clear hN hb1 ho2
          go_wp2_with (at_builtin; refine wpList_append_own _ rfl _ _ 33 rfl w.heap.size 2 i0 (.int .i64 0) 1 8 Try.underlying33 hi hz0 hz1 hz2 rfl (by decide) _ _ _ rfl (ho1.alloc _) ⟨w1.heap.size, 0, none⟩ 1 1 [.int .i64 y] rfl rfl (World.news_of_block (heap_alloc_new _ _)) (ints_oneCell .i64 [y]) (by unfold maxLen; omega) (by omega) (by simp; omega) ?_)
          intro v2 w2 hown' hgrow _
          have hb2 : Below w.heap.size w w2 := (hB1.alloc (by omega) _).grown hgrow (by simp; omega) (fun k hk => (ho1.lt k hk).1)
          have own2 := own_one hown'
          clear hgrow hown' ho1
          go_wp2
          go_roundw
          case rel => exact ⟨3 + 1, by omega, by go_num, hb2, by rw [HSB.out]; exact own2⟩
          case measure => simp [intOf]
        · have hq1 : 1 ≤ q := by omega
          have hN := fun w' h => l4Node_3 (.slice ad n c) l (q * 8 - 8) (q - 1) w' (HV.out w' h) HL.out HF.out (by show _ = _; omega) (by omega)
          have HSB : Hid (pth l x (3 + 1) = m ++ [nd l 3 (q - 1)]) := by
            show _ = _
            rw [HS.out, sib_odd (S := 8) rfl HQ.out h2]
          generalize nd l 3 (q - 1) = y at *
          have h2b : (q % 2 == 0) = false := by simpa using h2
          clear HS h2
          go_wp2_with fail
          refine (hN _ hB.out).mono ?_
          rintro e w1 ⟨rfl, hb1⟩
          have hB1 := below_after_of hB.out hb1
          have ho1 := own_below ho2 hb1
          have hsz1 := hB1.size
          clear hN hb1 ho2
          go_wp2_with (at_builtin; refine wpList_append_own _ rfl _ _ 33 rfl w.heap.size 2 i0 (.int .i64 0) 1 8 Try.underlying33 hi hz0 hz1 hz2 rfl (by decide) _ _ _ rfl (ho1.alloc _) ⟨w1.heap.size, 0, none⟩ 1 1 [.int .i64 y] rfl rfl (World.news_of_block (heap_alloc_new _ _)) (ints_oneCell .i64 [y]) (by unfold maxLen; omega) (by omega) (by simp; omega) ?_)
          intro v2 w2 hown' hgrow _
          have hb2 : Below w.heap.size w w2 := (hB1.alloc (by omega) _).grown hgrow (by simp; omega) (fun k hk => (ho1.lt k hk).1)
          have own2 := own_one hown'
          clear hgrow hown' ho1
          go_wp2
          go_roundw
          case rel => exact ⟨3 + 1, by omega, by go_num, hb2, by rw [HSB.out]; exact own2⟩
          case measure => simp [intOf]
      · obtain ⟨q, hq⟩ : ∃ q : Int, q = x / 16 := ⟨_, rfl⟩
        have HQ : Hid (q = x / 16) := hq
        have hqb : 0 ≤ q ∧ q * 16 ≤ 255 := by omega
        have e1 : x.tdiv 16 = q := by rw [Int.tdiv_eq_ediv_of_nonneg (by omega)]; exact hq.symm
        have e2 : (q * 16).tdiv 16 = q := Int.mul_tdiv_cancel q (by omega)
        have e3 : q.tmod 2 = q % 2 := by rw [Int.tmod_eq_emod_of_nonneg (by omega)]
        clear hq hK hk hk8
        by_cases h2 : q % 2 = 0
        · skip
          have hN := fun w' h => l4Node_4 (.slice ad n c) l (q * 16 + 16) (q + 1) w' (HV.out w' h) HL.out HF.out (by show _ = _; omega) (by omega)
          have HSB : Hid (pth l x (4 + 1) = m ++ [nd l 4 (q + 1)]) := by
            show _ = _
            rw [HS.out, sib_even (S := 16) rfl HQ.out h2]
          generalize nd l 4 (q + 1) = y at *
          have h2b : (q % 2 == 0) = true := by simpa using h2
          clear HS h2
          go_wp2_with fail
          refine (hN _ hB.out).mono ?_
          rintro e w1 ⟨rfl, hb1⟩
          have hB1 := below_after_of hB.out hb1
          have ho1 := own_below ho2 hb1
          have hsz1 := hB1.size
          clear hN hb1 ho2
          go_wp2_with (at_builtin; refine wpList_append_own _ rfl _ _ 33 rfl w.heap.size 2 i0 (.int .i64 0) 1 8 Try.underlying33 hi hz0 hz1 hz2 rfl (by decide) _ _ _ rfl (ho1.alloc _) ⟨w1.heap.size, 0, none⟩ 1 1 [.int .i64 y] rfl rfl (World.news_of_block (heap_alloc_new _ _)) (ints_oneCell .i64 [y]) (by unfold maxLen; omega) (by omega) (by simp; omega) ?_)
          intro v2 w2 hown' hgrow _
          have hb2 : Below w.heap.size w w2 := (hB1.alloc (by omega) _).grown hgrow (by simp; omega) (fun k hk => (ho1.lt k hk).1)
          have own2 := own_one hown'
          clear hgrow hown' ho1
          go_wp2
          go_roundw
          case rel => exact ⟨4 + 1, by omega, by go_num, hb2, by rw [HSB.out]; exact own2⟩
          case measure => simp [intOf]
        · have hq1 : 1 ≤ q := by omega
          have hN := fun w' h => l4Node_4 (.slice ad n c) l (q * 16 - 16) (q - 1) w' (HV.out w' h) HL.out HF.out (by show _ = _; omega) (by omega)
          have HSB : Hid (pth l x (4 + 1) = m ++ [nd l 4 (q - 1)]) := by
            show _ = _
            rw [HS.out, sib_odd (S := 16) rfl HQ.out h2]
          generalize nd l 4 (q - 1) = y at *
          have h2b : (q % 2 == 0) = false := by simpa using h2
          clear HS h2
          go_wp2_with fail
          refine (hN _ hB.out).mono ?_
          rintro e w1 ⟨rfl, hb1⟩
          have hB1 := below_after_of hB.out hb1
          have ho1 := own_below ho2 hb1
          have hsz1 := hB1.size
          clear hN hb1 ho2
          go_wp2_with (at_builtin; refine wpList_append_own _ rfl _ _ 33 rfl w.heap.size 2 i0 (.int .i64 0) 1 8 Try.underlying33 hi hz0 hz1 hz2 rfl (by decide) _ _ _ rfl (ho1.alloc _) ⟨w1.heap.size, 0, none⟩ 1 1 [.int .i64 y] rfl rfl (World.news_of_block (heap_alloc_new _ _)) (ints_oneCell .i64 [y]) (by unfold maxLen; omega) (by omega) (by simp; omega) ?_)
          intro v2 w2 hown' hgrow _
          have hb2 : Below w.heap.size w w2 := (hB1.alloc (by omega) _).grown hgrow (by simp; omega) (fun k hk => (ho1.lt k hk).1)
          have own2 := own_one hown'
          clear hgrow hown' ho1
          go_wp2
          go_roundw
          case rel => exact ⟨4 + 1, by omega, by go_num, hb2, by rw [HSB.out]; exact own2⟩
          case measure => simp [intOf]
      · obtain ⟨q, hq⟩ : ∃ q : Int, q = x / 32 := ⟨_, rfl⟩
        have HQ : Hid (q = x / 32) := hq
        have hqb : 0 ≤ q ∧ q * 32 ≤ 255 := by omega
        have e1 : x.tdiv 32 = q := by rw [Int.tdiv_eq_ediv_of_nonneg (by omega)]; exact hq.symm
        have e2 : (q * 32).tdiv 32 = q := Int.mul_tdiv_cancel q (by omega)
        have e3 : q.tmod 2 = q % 2 := by rw [Int.tmod_eq_emod_of_nonneg (by omega)]
        clear hq hK hk hk8
        by_cases h2 : q % 2 = 0
        · skip
          have hN := fun w' h => l4Node_5 (.slice ad n c) l (q * 32 + 32) (q + 1) w' (HV.out w' h) HL.out HF.out (by show _ = _; omega) (by omega)
          have HSB : Hid (pth l x (5 + 1) = m ++ [nd l 5 (q + 1)]) := by
            show _ = _
            rw [HS.out, sib_even (S := 32) rfl HQ.out h2]
          generalize nd l 5 (q + 1) = y at *
          have h2b : (q % 2 == 0) = true := by simpa using h2
          clear HS h2
          go_wp2_with fail
          refine (hN _ hB.out).mono ?_
          rintro e w1 ⟨rfl, hb1⟩
          have hB1 := below_after_of hB.out hb1
          have ho1 := own_below ho2 hb1
          have hsz1 := hB1.size
          clear hN hb1 ho2
          go_wp2_with (at_builtin; refine wpList_append_own _ rfl _ _ 33 rfl w.heap.size 2 i0 (.int .i64 0) 1 8 Try.underlying33 hi hz0 hz1 hz2 rfl (by decide) _ _ _ rfl (ho1.alloc _) ⟨w1.heap.size, 0, none⟩ 1 1 [.int .i64 y] rfl rfl (World.news_of_block (heap_alloc_new _ _)) (ints_oneCell .i64 [y]) (by unfold maxLen; omega) (by omega) (by simp; omega) ?_)
          intro v2 w2 hown' hgrow _
          have hb2 : Below w.heap.size w w2 := (hB1.alloc (by omega) _).grown hgrow (by simp; omega) (fun k hk => (ho1.lt k hk).1)
          have own2 := own_one hown'
          clear hgrow hown' ho1
          go_wp2
          go_roundw
          case rel => exact ⟨5 + 1, by omega, by go_num, hb2, by rw [HSB.out]; exact own2⟩
          case measure => simp [intOf]
        · have hq1 : 1 ≤ q := by omega
          have hN := fun w' h => l4Node_5 (.slice ad n c) l (q * 32 - 32) (q - 1) w' (HV.out w' h) HL.out HF.out (by show _ = _; omega) (by omega)
          have HSB : Hid (pth l x (5 + 1) = m ++ [nd l 5 (q - 1)]) := by
            show _ = _
            rw [HS.out, sib_odd (S := 32) rfl HQ.out h2]
          generalize nd l 5 (q - 1) = y at *
          have h2b : (q % 2 == 0) = false := by simpa using h2
          clear HS h2
          go_wp2_with fail
          refine (hN _ hB.out).mono ?_
          rintro e w1 ⟨rfl, hb1⟩
          have hB1 := below_after_of hB.out hb1
          have ho1 := own_below ho2 hb1
          have hsz1 := hB1.size
          clear hN hb1 ho2
          go_wp2_with (at_builtin; refine wpList_append_own _ rfl _ _ 33 rfl w.heap.size 2 i0 (.int .i64 0) 1 8 Try.underlying33 hi hz0 hz1 hz2 rfl (by decide) _ _ _ rfl (ho1.alloc _) ⟨w1.heap.size, 0, none⟩ 1 1 [.int .i64 y] rfl rfl (World.news_of_block (heap_alloc_new _ _)) (ints_oneCell .i64 [y]) (by unfold maxLen; omega) (by omega) (by simp; omega) ?_)
          intro v2 w2 hown' hgrow _
          have hb2 : Below w.heap.size w w2 := (hB1.alloc (by omega) _).grown hgrow (by simp; omega) (fun k hk => (ho1.lt k hk).1)
          have own2 := own_one hown'
          clear hgrow hown' ho1
          go_wp2
          go_roundw
          case rel => exact ⟨5 + 1, by omega, by go_num, hb2, by rw [HSB.out]; exact own2⟩
          case measure => simp [intOf]
      · obtain ⟨q, hq⟩ : ∃ q : Int, q = x / 64 := ⟨_, rfl⟩
        have HQ : Hid (q = x / 64) := hq
        have hqb : 0 ≤ q ∧ q * 64 ≤ 255 := by omega
        have e1 : x.tdiv 64 = q := by rw [Int.tdiv_eq_ediv_of_nonneg (by omega)]; exact hq.symm
        have e2 : (q * 64).tdiv 64 = q := Int.mul_tdiv_cancel q (by omega)
        have e3 : q.tmod 2 = q % 2 := by rw [Int.tmod_eq_emod_of_nonneg (by omega)]
        clear hq hK hk hk8
        by_cases h2 : q % 2 = 0
        · skip
          have hN := fun w' h => l4Node_6 (.slice ad n c) l (q * 64 + 64) (q + 1) w' (HV.out w' h) HL.out HF.out (by show _ = _; omega) (by omega)
          have HSB : Hid (pth l x (6 + 1) = m ++ [nd l 6 (q + 1)]) := by
            show _ = _
            rw [HS.out, sib_even (S := 64) rfl HQ.out h2]
          generalize nd l 6 (q + 1) = y at *
          have h2b : (q % 2 == 0) = true := by simpa using h2
          clear HS h2
          go_wp2_with fail
          refine (hN _ hB.out).mono ?_
          rintro e w1 ⟨rfl, hb1⟩
          have hB1 := below_after_of hB.out hb1
          have ho1 := own_below ho2 hb1
          have hsz1 := hB1.size
          clear hN hb1 ho2
          go_wp2_with (at_builtin; refine wpList_append_own _ rfl _ _ 33 rfl w.heap.size 2 i0 (.int .i64 0) 1 8 Try.underlying33 hi hz0 hz1 hz2 rfl (by decide) _ _ _ rfl (ho1.alloc _) ⟨w1.heap.size, 0, none⟩ 1 1 [.int .i64 y] rfl rfl (World.news_of_block (heap_alloc_new _ _)) (ints_oneCell .i64 [y]) (by unfold maxLen; omega) (by omega) (by simp; omega) ?_)
          intro v2 w2 hown' hgrow _
          have hb2 : Below w.heap.size w w2 := (hB1.alloc (by omega) _).grown hgrow (by simp; omega) (fun k hk => (ho1.lt k hk).1)
          have own2 := own_one hown'
          clear hgrow hown' ho1
          go_wp2
          go_roundw
          case rel => exact ⟨6 + 1, by omega, by go_num, hb2, by rw [HSB.out]; exact own2⟩
          case measure => simp [intOf]
        · have hq1 : 1 ≤ q := by omega
          have hN := fun w' h => l4Node_6 (.slice ad n c) l (q * 64 - 64) (q - 1) w' (HV.out w' h) HL.out HF.out (by show _ = _; omega) (by omega)
          have HSB : Hid (pth l x (6 + 1) = m ++ [nd l 6 (q - 1)]) := by
            show _ = _
            rw [HS.out, sib_odd (S := 64) rfl HQ.out h2]
          generalize nd l 6 (q - 1) = y at *
          have h2b : (q % 2 == 0) = false := by simpa using h2
          clear HS h2
          go_wp2_with fail
          refine (hN _ hB.out).mono ?_
          rintro e w1 ⟨rfl, hb1⟩
          have hB1 := below_after_of hB.out hb1
          have ho1 := own_below ho2 hb1
          have hsz1 := hB1.size
          clear hN hb1 ho2
          go_wp2_with (at_builtin; refine wpList_append_own _ rfl _ _ 33 rfl w.heap.size 2 i0 (.int .i64 0) 1 8 Try.underlying33 hi hz0 hz1 hz2 rfl (by decide) _ _ _ rfl (ho1.alloc _) ⟨w1.heap.size, 0, none⟩ 1 1 [.int .i64 y] rfl rfl (World.news_of_block (heap_alloc_new _ _)) (ints_oneCell .i64 [y]) (by unfold maxLen; omega) (by omega) (by simp; omega) ?_)
          intro v2 w2 hown' hgrow _
          have hb2 : Below w.heap.size w w2 := (hB1.alloc (by omega) _).grown hgrow (by simp; omega) (fun k hk => (ho1.lt k hk).1)
          have own2 := own_one hown'
          clear hgrow hown' ho1
          go_wp2
          go_roundw
          case rel => exact ⟨6 + 1, by omega, by go_num, hb2, by rw [HSB.out]; exact own2⟩
          case measure => simp [intOf]
      · obtain ⟨q, hq⟩ : ∃ q : Int, q = x / 128 := ⟨_, rfl⟩
        have HQ : Hid (q = x / 128) := hq
        have hqb : 0 ≤ q ∧ q * 128 ≤ 255 := by omega
        have e1 : x.tdiv 128 = q := by rw [Int.tdiv_eq_ediv_of_nonneg (by omega)]; exact hq.symm
        have e2 : (q * 128).tdiv 128 = q := Int.mul_tdiv_cancel q (by omega)
        have e3 : q.tmod 2 = q % 2 := by rw [Int.tmod_eq_emod_of_nonneg (by omega)]
        clear hq hK hk hk8
        by_cases h2 : q % 2 = 0
        · skip
          have hN := fun w' h => l4Node_7 (.slice ad n c) l (q * 128 + 128) (q + 1) w' (HV.out w' h) HL.out HF.out (by show _ = _; omega) (by omega)
          have HSB : Hid (pth l x (7 + 1) = m ++ [nd l 7 (q + 1)]) := by
            show _ = _
            rw [HS.out, sib_even (S := 128) rfl HQ.out h2]
          generalize nd l 7 (q + 1) = y at *
          have h2b : (q % 2 == 0) = true := by simpa using h2
          clear HS h2
          go_wp2_with fail
          refine (hN _ hB.out).mono ?_
          rintro e w1 ⟨rfl, hb1⟩
          have hB1 := below_after_of hB.out hb1
          have ho1 := own_below ho2 hb1
          have hsz1 := hB1.size
          clear hN hb1 ho2
          go_wp2_with (at_builtin; refine wpList_append_own _ rfl _ _ 33 rfl w.heap.size 2 i0 (.int .i64 0) 1 8 Try.underlying33 hi hz0 hz1 hz2 rfl (by decide) _ _ _ rfl (ho1.alloc _) ⟨w1.heap.size, 0, none⟩ 1 1 [.int .i64 y] rfl rfl (World.news_of_block (heap_alloc_new _ _)) (ints_oneCell .i64 [y]) (by unfold maxLen; omega) (by omega) (by simp; omega) ?_)
          intro v2 w2 hown' hgrow _
          have hb2 : Below w.heap.size w w2 := (hB1.alloc (by omega) _).grown hgrow (by simp; omega) (fun k hk => (ho1.lt k hk).1)
          have own2 := own_one hown'
          clear hgrow hown' ho1
          go_wp2
          go_roundw
          case rel => exact ⟨7 + 1, by omega, by go_num, hb2, by rw [HSB.out]; exact own2⟩
          case measure => simp [intOf]
        · have hq1 : 1 ≤ q := by omega
          have hN := fun w' h => l4Node_7 (.slice ad n c) l (q * 128 - 128) (q - 1) w' (HV.out w' h) HL.out HF.out (by show _ = _; omega) (by omega)
          have HSB : Hid (pth l x (7 + 1) = m ++ [nd l 7 (q - 1)]) := by
            show _ = _
            rw [HS.out, sib_odd (S := 128) rfl HQ.out h2]
          generalize nd l 7 (q - 1) = y at *
          have h2b : (q % 2 == 0) = false := by simpa using h2
          clear HS h2
          go_wp2_with fail
          refine (hN _ hB.out).mono ?_
          rintro e w1 ⟨rfl, hb1⟩
          have hB1 := below_after_of hB.out hb1
          have ho1 := own_below ho2 hb1
          have hsz1 := hB1.size
          clear hN hb1 ho2
          go_wp2_with (at_builtin; refine wpList_append_own _ rfl _ _ 33 rfl w.heap.size 2 i0 (.int .i64 0) 1 8 Try.underlying33 hi hz0 hz1 hz2 rfl (by decide) _ _ _ rfl (ho1.alloc _) ⟨w1.heap.size, 0, none⟩ 1 1 [.int .i64 y] rfl rfl (World.news_of_block (heap_alloc_new _ _)) (ints_oneCell .i64 [y]) (by unfold maxLen; omega) (by omega) (by simp; omega) ?_)
          intro v2 w2 hown' hgrow _
          have hb2 : Below w.heap.size w w2 := (hB1.alloc (by omega) _).grown hgrow (by simp; omega) (fun k hk => (ho1.lt k hk).1)
          have own2 := own_one hown'
          clear hgrow hown' ho1
          go_wp2
          go_roundw
          case rel => exact ⟨7 + 1, by omega, by go_num, hb2, by rw [HSB.out]; exact own2⟩
          case measure => simp [intOf]
    · have hk8 : k = 8 := by omega
      subst hk8 hK
      obtain ⟨a', c', rfl⟩ := own_shape ho.out
      go_wp2
      go_ret
      exact ⟨_, rfl, ho.out, hB.out⟩
end U
end Go.Proofs.Ytdcfoggcepkelaa

/- The path of a key, by the program. -/
namespace Go.Proofs.Ytdcfoggcepkelaa
open Go.RowKit
namespace U
/-- Nine numbers in a block of their own. -/
def ArrB (w : World) (g : Nat) (f : Nat → Int) : Prop := w.heap[g]? = some (.cells (arrA f) 102)
theorem ArrB.at {w : World} {g : Nat} {f : Nat → Int} (h : ArrB w g f) : ArrAt w g f := ArrAt.of h
theorem ArrB.below {w w' : World} {g B : Nat} {f : Nat → Int} (h : ArrB w g f) (hb : Below B w w') (hg : g < B) : ArrB w' g f := (hb.block g hg).trans h
theorem ArrB.set {w : World} {g k : Nat} {f : Nat → Int} (h : ArrB w g f) (hk : k < 9) (x : Int) : ArrB (w.setCell ⟨g, k, none⟩ (.int .i64 x)) g (fun j => if j = k then x else f j) := by
  have h1 := heap_setCell_same w g k (arrA f) 102 (.int .i64 x) h
  unfold ArrB
  rw [h1]
  rcases lt9 hk with rfl | rfl | rfl | rfl | rfl | rfl | rfl | rfl | rfl <;> rfl
theorem ArrB.other {w : World} {g k b : Nat} {f : Nat → Int} (h : ArrB w g f) (hb : b ≠ g) (x : Value) : ArrB (w.setCell ⟨b, k, none⟩ x) g f :=
  (heap_setCell_other w ⟨b, k, none⟩ g x (fun e => hb (by simpa using e.symm))).trans h
theorem ArrB.congr {w : World} {g : Nat} {f f' : Nat → Int} (h : ArrB w g f) (e : ∀ j, j < 9 → f j = f' j) : ArrB w g f' := by
  have : arrA f = arrA f' := by unfold arrA; rw [e 0 (by omega), e 1 (by omega), e 2 (by omega), e 3 (by omega), e 4 (by omega), e 5 (by omega), e 6 (by omega), e 7 (by omega), e 8 (by omega)]
  unfold ArrB at h ⊢
  rw [← this]; exact h
/-- The path as far as it is laid. -/
def pf (l : Prl) (x : Int) (k j : Nat) : Int := if j < k then nd l j (sib x j) else emp j
theorem pf_step {l : Prl} {x : Int} {k : Nat} : ∀ j, j < 9 → (fun j => if j = k then nd l k (sib x k) else pf l x k j) j = pf l x (k + 1) j := fun j _ => by
  show (if j = k then nd l k (sib x k) else pf l x k j) = pf l x (k + 1) j
  unfold pf
  by_cases e : j = k
  · subst e; rw [if_pos rfl, if_pos (by omega)]
  · rw [if_neg e]
    by_cases e2 : j < k
    · rw [if_pos e2, if_pos (by omega)]
    · rw [if_neg e2, if_neg (by omega)]
theorem pf_skip {l : Prl} {x : Int} {k : Nat} (h : nd l k (sib x k) = emp k) : ∀ j, j < 9 → pf l x k j = pf l x (k + 1) j := fun j _ => by
  unfold pf
  by_cases e : j = k
  · subst e; rw [if_neg (by omega), if_pos (by omega), h]
  · by_cases e2 : j < k
    · rw [if_pos e2, if_pos (by omega)]
    · rw [if_neg e2, if_neg (by omega)]
theorem pf_all (l : Prl) (x : Int) : (arrA (pf l x 8)).toList.take 8 = (pth l x 8).map (Value.int .i64) := by
  simp [arrA, pf, pth]
/-- An answer of a code and numbers in memory of its own, of whatever make. -/
def NumsAns (w : World) (code : Int) (xs : List Int) (e : Ending) (w' : World) : Prop :=
  Below w.heap.size w w' ∧ ∃ v t, e = .returned (.agg #[.int .i64 code, v]) ∧ w'.ownsRow w.heap.size t 1 v xs.length (xs.map (Value.int .i64))
theorem NumsAns.use {w w' : World} {code : Int} {xs : List Int} {e : Ending} (h : NumsAns w code xs e w') : ∃ a c t, e = .returned (.agg #[.int .i64 code, .slice a xs.length c]) ∧ Below w.heap.size w w' ∧ w'.ownsRow w.heap.size t 1 (.slice a xs.length c) xs.length (xs.map (Value.int .i64)) := by
  obtain ⟨hb, v, t, rfl, ho⟩ := h
  obtain ⟨a, c, rfl⟩ := own_shape ho
  exact ⟨a, c, t, rfl, hb, ho⟩
theorem nd_side {l : Prl} (hr : Ris l) (hf : ∀ p ∈ l, fine p = true) (k : Nat) (q : Int) : prt (cut l (q * (2 ^ k : Nat)) (q * (2 ^ k : Nat) + (2 ^ k : Nat))) k = nd l k q := by
  rw [prt_nd (cut_ris hr _ _) (fun p hp => (fine_bd (hf p (cut_mem.1 hp).1)).1.1) (q := q) (fun p hp => in_part.2 (cut_mem.1 hp).2), nd_cut]
theorem xor_all : ∀ q : Fin 256, bits BinOp.xor IntKind.i64 ((q.1 : Nat) : Int) 1 = if ((q.1 : Nat) : Int) % 2 = 0 then ((q.1 : Nat) : Int) + 1 else ((q.1 : Nat) : Int) - 1 := by decide +kernel
theorem xor_one {q : Int} (h0 : 0 ≤ q) (h1 : q ≤ 255) : bits BinOp.xor IntKind.i64 q 1 = if q % 2 = 0 then q + 1 else q - 1 := by
  have := xor_all ⟨q.toNat, by omega⟩
  have e : ((q.toNat : Nat) : Int) = q := by omega
  simp only [e] at this
  exact this
set_option maxRecDepth 100000 in
set_option maxHeartbeats 16000000 in
theorem implOldPath_ok (ad : Option Addr) (n c : Nat) (l : Prl) (x : Int) (w : World) (hv : Prs w (.slice ad n c) l) (hok : Okv (.slice ad n c)) (hs : Sls l) (hx : 0 ≤ x ∧ x ≤ 255)
    (hF : ∀ w', Below w.heap.size w w' → Calls Try.prog 76 #[.slice ad n c] w' fun e w'' => e = .returned (.int .i64 0) ∧ Below w'.heap.size w' w'')
    (hK : ∀ w', Calls Try.prog 77 #[.int .i64 x] w' fun e w'' => e = .returned (.bool true) ∧ w'' = w') :
    Calls Try.prog 25 #[.slice ad n c, .int .i64 x] w fun e w' => NumsAns w 0 (pth l x 8) e w' := by
  have hE := fun w => emptySums_any w
  simp only [arrA] at hE
  have HV : Hid (∀ w', Below w.heap.size w w' → Prs w' (.slice ad n c) l) := fun w' h => hv.below h
  have HOK : Hid (Okv (.slice ad n c)) := hok
  have HSL : Hid (Sls l) := hs
  clear hv hok hs
  go_enter Try.func25, Try.ntmps25
  go_wp2_with fail
  refine (hF _ (one_new _)).mono ?_
  rintro e w1 ⟨rfl, hb1⟩
  clear hF
  go_wp2_with fail
  refine (hK _).mono ?_
  rintro e w1b ⟨rfl, rfl⟩
  clear hK
  go_wp2_with fail
  refine (hE _).mono ?_
  rintro e w2 ⟨rfl, hb2⟩
  have hb2' := below_after_of hb1 hb2
  have hB2 := below_after hb2'
  have hR2 := (hb2'.block w.heap.size (by simp)).trans (heap_alloc_new w _)
  have hz2 : w.heap.size < w2.heap.size := by have := hb2'.size; simp at this; omega
  have A1 : ArrB (w2.alloc (.cells (arrA emp) 102)) w2.heap.size emp := heap_alloc_new _ _
  obtain ⟨c0, c1, c2, c3, c4, c5, c6, c7, c8⟩ := A1.at.cells
  have A2 : ArrB ((w2.alloc (.cells (arrA emp) 102)).alloc (.cells (arrA emp) 102)) w2.heap.size emp := A1.below (one_new _) (by simp)
  have A3 : ArrB ((w2.alloc (.cells (arrA emp) 102)).alloc (.cells (arrA emp) 102)) (w2.heap.size + 1) emp := by
    have := heap_alloc_new (w2.alloc (.cells (arrA emp) 102)) (.cells (arrA emp) 102)
    rw [World.size_alloc] at this
    exact this
  have hB3 : Below w.heap.size w ((w2.alloc (.cells (arrA emp) 102)).alloc (.cells (arrA emp) 102)) := below_after_of hB2 (two_new _ _)
  have hR3 : ((w2.alloc (.cells (arrA emp) 102)).alloc (.cells (arrA emp) 102)).heap[w.heap.size]? = some (.cells #[.int .i64 0, .slice none 0 0] 49) := ((two_new _ _).block w.heap.size hz2).trans hR2
  have hz3 : w2.heap.size + 2 ≤ ((w2.alloc (.cells (arrA emp) 102)).alloc (.cells (arrA emp) 102)).heap.size := by simp
  have HH : Hid (ArrB ((w2.alloc (.cells (arrA emp) 102)).alloc (.cells (arrA emp) 102)) w2.heap.size emp ∧ ArrB ((w2.alloc (.cells (arrA emp) 102)).alloc (.cells (arrA emp) 102)) (w2.heap.size + 1) (pf l x 0) ∧ Below w.heap.size w ((w2.alloc (.cells (arrA emp) 102)).alloc (.cells (arrA emp) 102)) ∧ ((w2.alloc (.cells (arrA emp) 102)).alloc (.cells (arrA emp) 102)).heap[w.heap.size]? = some (.cells #[.int .i64 0, .slice none 0 0] 49)) := ⟨A2, A3, hB3, hR3⟩
  clear A1 A2 A3 hB3 hR3 hb2' hB2 hR2 hb1 hb2 hE hz3
  go_wp2
  go_loopw [23] (fun i wr => ∃ k : Nat, k ≤ 8 ∧ i = .int .i64 k ∧ w2.heap.size + 2 ≤ wr.heap.size ∧ Hid (ArrB wr w2.heap.size emp ∧ ArrB wr (w2.heap.size + 1) (pf l x k) ∧ Below w.heap.size w wr ∧ wr.heap[w.heap.size]? = some (.cells #[.int .i64 0, .slice none 0 0] 49))) (fun i _ => 8 - (intOf i).toNat)
  case atStart => exact ⟨0, Nat.zero_le _, rfl, by simp, HH⟩
  case round =>
    obtain ⟨k, hk, rfl, hz, HI⟩ := hrel
    clear c0 c1 c2 c3 c4 c5 c6 c7 c8
    obtain ⟨K, hKK⟩ : ∃ K : Int, K = (k : Int) := ⟨_, rfl⟩
    rw [← hKK]
    by_cases hk8 : k < 8
    · have hl12 := HSL.out.len
      rcases (by omega : (k = 0 ∧ K = 0) ∨ (k = 1 ∧ K = 1) ∨ (k = 2 ∧ K = 2) ∨ (k = 3 ∧ K = 3) ∨ (k = 4 ∧ K = 4) ∨ (k = 5 ∧ K = 5) ∨ (k = 6 ∧ K = 6) ∨ (k = 7 ∧ K = 7)) with ⟨rfl, rfl⟩ | ⟨rfl, rfl⟩ | ⟨rfl, rfl⟩ | ⟨rfl, rfl⟩ | ⟨rfl, rfl⟩ | ⟨rfl, rfl⟩ | ⟨rfl, rfl⟩ | ⟨rfl, rfl⟩
      · obtain ⟨r, hr⟩ : ∃ r : Int, r = sib x 0 := ⟨_, rfl⟩
        have hrb : (r = x / 1 + 1 ∨ r = x / 1 - 1 ∧ 1 ≤ x / 1) := by
          rw [hr]
          unfold sib
          rw [show ((2 ^ 0 : Nat) : Int) = 1 from rfl]
          split
          · exact Or.inl rfl
          · right; omega
        have hrr : 0 ≤ r ∧ r * 1 + 1 ≤ 1000 := by omega
        have ex : bits BinOp.xor IntKind.i64 (x) 1 = r := by
          rw [xor_one (by omega) (by omega), hr]
          unfold sib
          rw [show ((2 ^ 0 : Nat) : Int) = 1 from rfl]
          rw [Int.ediv_one]
        have ecut : cut l (r * ((2 ^ 0 : Nat) : Int)) (r * ((2 ^ 0 : Nat) : Int) + ((2 ^ 0 : Nat) : Int)) = cut l (r) (r + 1) := by
          rw [show ((2 ^ 0 : Nat) : Int) = 1 from rfl]; rw [Int.mul_one]
        have esd := nd_side HSL.out.ris HSL.out.fin 0 r
        have eno : cut l (r) (r + 1) = [] → nd l 0 r = emp 0 := fun h => nd_none (cut_has.1 (by rw [ecut]; exact h))
        rw [ecut] at esd
        have hcl := cut_len l (r) (r + 1)
        have hcr := cut_ris HSL.out.ris (r) (r + 1)
        have hcf := cut_fine (a := r) (b := r + 1) HSL.out.fin
        have hSB := fun w' h => slotsBetween_any (.slice ad n c) l (r) (r + 1) w' (HV.out w' h) HOK.out HSL.out.len HSL.out.ris (by omega)
        have HST : Hid (∀ j, j < 9 → (fun j => if j = 0 then nd l 0 r else pf l x 0 j) j = pf l x (0 + 1) j) := by rw [hr]; exact pf_step
        have HSK : Hid (nd l 0 r = emp 0 → ∀ j, j < 9 → pf l x 0 j = pf l x (0 + 1) j) := fun h => pf_skip (by rw [← hr]; exact h)
        generalize cut l (r) (r + 1) = m at *
        have hPS := fun u w' hu => partSum_any u m 0 w' hu (by omega) hcr hcf (by omega)
        rw [esd] at hPS
        simp only [arrA] at hPS
        rw [show ((0 : Nat) : Int) = 0 from rfl] at hPS
        have HNO : Hid (m = [] → nd l 0 r = emp 0) := eno
        have hm12 : m.length ≤ 12 := by omega
        generalize nd l 0 r = y at *
        clear hKK hk hk8 ecut esd eno hcl hcr hcf hr hl12 hrb
        go_wp2_with fail
        refine (hSB _ HI.out.2.2.1).mono ?_
        rintro e w3 ⟨⟨ad3, cc3, rfl, hp3, -⟩, hb3⟩
        have hp3 := hp3.below hb3
        have hz3 := hb3.size
        obtain ⟨HA1, HA2, HA3, HA4⟩ := HI.out
        have HI3 : Hid (ArrB w3 w2.heap.size emp ∧ ArrB w3 (w2.heap.size + 1) (pf l x 0) ∧ Below w.heap.size w w3 ∧ w3.heap[w.heap.size]? = some (.cells #[.int .i64 0, .slice none 0 0] 49)) := ⟨HA1.below hb3 (by omega), HA2.below hb3 (by omega), below_after_of HA3 hb3, (hb3.block w.heap.size (by omega)).trans HA4⟩
        have hz4 : w2.heap.size + 2 ≤ w3.heap.size := by omega
        clear hSB HI HA1 HA2 HA3 HA4 hb3 hz
        by_cases hm0 : m = []
        · have HS2 : Hid (∀ j, j < 9 → pf l x 0 j = pf l x (0 + 1) j) := HSK.out (HNO.out hm0)
          subst hm0
          simp only [List.length_nil]
          clear hPS hp3 HST HSK HNO
          go_wp2
          go_roundw
          case rel => exact ⟨0 + 1, by omega, by go_num, by omega, ⟨HI3.out.1, HI3.out.2.1.congr HS2.out, HI3.out.2.2.1, HI3.out.2.2.2⟩⟩
          case measure => simp [intOf]
        · have hml : (0 : Int) < (m.length : Int) := by have : 0 < m.length := List.length_pos_iff.2 hm0; omega
          obtain ⟨c0, c1, c2, c3, c4, c5, c6, c7, c8⟩ := HI3.out.1.at.cells
          have HP3 : Hid (Prs w3 (.slice ad3 m.length cc3) m) := hp3
          clear hm0 HSK HNO hp3
          go_wp2_with fail
          refine (hPS _ _ HP3.out).mono ?_
          rintro e w4 ⟨rfl, hb4⟩
          obtain ⟨HA1, HA2, HA3, HA4⟩ := HI3.out
          have HB2 := HA2.below hb4 (by omega)
          have k1 := HB2.at.c 0 (by omega)
          have z1 := HB2.at.z 0 (by omega)
          have hz5 := hb4.size
          have HI4 : Hid (ArrB (w4.setCell ⟨w2.heap.size + 1, 0, none⟩ (.int .i64 y)) w2.heap.size emp ∧ ArrB (w4.setCell ⟨w2.heap.size + 1, 0, none⟩ (.int .i64 y)) (w2.heap.size + 1) (pf l x (0 + 1)) ∧ Below w.heap.size w (w4.setCell ⟨w2.heap.size + 1, 0, none⟩ (.int .i64 y)) ∧ (w4.setCell ⟨w2.heap.size + 1, 0, none⟩ (.int .i64 y)).heap[w.heap.size]? = some (.cells #[.int .i64 0, .slice none 0 0] 49)) :=
            ⟨(HA1.below hb4 (by omega)).other (by omega) _, (HB2.set (by omega) y).congr HST.out, (below_after_of HA3 hb4).setCell (by show w.heap.size ≤ w2.heap.size + 1; omega) _, (heap_setCell_other w4 ⟨w2.heap.size + 1, 0, none⟩ w.heap.size _ (by show w.heap.size ≠ w2.heap.size + 1; omega)).trans ((hb4.block w.heap.size (by omega)).trans HA4)⟩
          clear hPS HI3 HA1 HA2 HA3 HA4 HB2 hb4 HST HP3 c0 c1 c2 c3 c4 c5 c6 c7 c8
          go_wp2
          go_roundw
          case rel => exact ⟨0 + 1, by omega, by go_num, by simp; omega, HI4⟩
          case measure => simp [intOf]
      · obtain ⟨r, hr⟩ : ∃ r : Int, r = sib x 1 := ⟨_, rfl⟩
        have hrb : (r = x / 2 + 1 ∨ r = x / 2 - 1 ∧ 1 ≤ x / 2) := by
          rw [hr]
          unfold sib
          rw [show ((2 ^ 1 : Nat) : Int) = 2 from rfl]
          split
          · exact Or.inl rfl
          · right; omega
        have hrr : 0 ≤ r ∧ r * 2 + 2 ≤ 1000 := by omega
        have ex : bits BinOp.xor IntKind.i64 (x / 2) 1 = r := by
          rw [xor_one (by omega) (by omega), hr]
          unfold sib
          rw [show ((2 ^ 1 : Nat) : Int) = 2 from rfl]
          skip
        have ecut : cut l (r * ((2 ^ 1 : Nat) : Int)) (r * ((2 ^ 1 : Nat) : Int) + ((2 ^ 1 : Nat) : Int)) = cut l (r * 2) (r * 2 + 2) := by
          rw [show ((2 ^ 1 : Nat) : Int) = 2 from rfl]
        have esd := nd_side HSL.out.ris HSL.out.fin 1 r
        have eno : cut l (r * 2) (r * 2 + 2) = [] → nd l 1 r = emp 1 := fun h => nd_none (cut_has.1 (by rw [ecut]; exact h))
        rw [ecut] at esd
        have hcl := cut_len l (r * 2) (r * 2 + 2)
        have hcr := cut_ris HSL.out.ris (r * 2) (r * 2 + 2)
        have hcf := cut_fine (a := r * 2) (b := r * 2 + 2) HSL.out.fin
        have hSB := fun w' h => slotsBetween_any (.slice ad n c) l (r * 2) (r * 2 + 2) w' (HV.out w' h) HOK.out HSL.out.len HSL.out.ris (by omega)
        have HST : Hid (∀ j, j < 9 → (fun j => if j = 1 then nd l 1 r else pf l x 1 j) j = pf l x (1 + 1) j) := by rw [hr]; exact pf_step
        have HSK : Hid (nd l 1 r = emp 1 → ∀ j, j < 9 → pf l x 1 j = pf l x (1 + 1) j) := fun h => pf_skip (by rw [← hr]; exact h)
        generalize cut l (r * 2) (r * 2 + 2) = m at *
        have hPS := fun u w' hu => partSum_any u m 1 w' hu (by omega) hcr hcf (by omega)
        rw [esd] at hPS
        simp only [arrA] at hPS
        rw [show ((1 : Nat) : Int) = 1 from rfl] at hPS
        have HNO : Hid (m = [] → nd l 1 r = emp 1) := eno
        have hm12 : m.length ≤ 12 := by omega
        generalize nd l 1 r = y at *
        clear hKK hk hk8 ecut esd eno hcl hcr hcf hr hl12 hrb
        go_wp2_with fail
        refine (hSB _ HI.out.2.2.1).mono ?_
        rintro e w3 ⟨⟨ad3, cc3, rfl, hp3, -⟩, hb3⟩
        have hp3 := hp3.below hb3
        have hz3 := hb3.size
        obtain ⟨HA1, HA2, HA3, HA4⟩ := HI.out
        have HI3 : Hid (ArrB w3 w2.heap.size emp ∧ ArrB w3 (w2.heap.size + 1) (pf l x 1) ∧ Below w.heap.size w w3 ∧ w3.heap[w.heap.size]? = some (.cells #[.int .i64 0, .slice none 0 0] 49)) := ⟨HA1.below hb3 (by omega), HA2.below hb3 (by omega), below_after_of HA3 hb3, (hb3.block w.heap.size (by omega)).trans HA4⟩
        have hz4 : w2.heap.size + 2 ≤ w3.heap.size := by omega
        clear hSB HI HA1 HA2 HA3 HA4 hb3 hz
        by_cases hm0 : m = []
        · have HS2 : Hid (∀ j, j < 9 → pf l x 1 j = pf l x (1 + 1) j) := HSK.out (HNO.out hm0)
          subst hm0
          simp only [List.length_nil]
          clear hPS hp3 HST HSK HNO
          go_wp2
          go_roundw
          case rel => exact ⟨1 + 1, by omega, by go_num, by omega, ⟨HI3.out.1, HI3.out.2.1.congr HS2.out, HI3.out.2.2.1, HI3.out.2.2.2⟩⟩
          case measure => simp [intOf]
        · have hml : (0 : Int) < (m.length : Int) := by have : 0 < m.length := List.length_pos_iff.2 hm0; omega
          obtain ⟨c0, c1, c2, c3, c4, c5, c6, c7, c8⟩ := HI3.out.1.at.cells
          have HP3 : Hid (Prs w3 (.slice ad3 m.length cc3) m) := hp3
          clear hm0 HSK HNO hp3
          go_wp2_with fail
          refine (hPS _ _ HP3.out).mono ?_
          rintro e w4 ⟨rfl, hb4⟩
          obtain ⟨HA1, HA2, HA3, HA4⟩ := HI3.out
          have HB2 := HA2.below hb4 (by omega)
          have k1 := HB2.at.c 1 (by omega)
          have z1 := HB2.at.z 1 (by omega)
          have hz5 := hb4.size
          have HI4 : Hid (ArrB (w4.setCell ⟨w2.heap.size + 1, 1, none⟩ (.int .i64 y)) w2.heap.size emp ∧ ArrB (w4.setCell ⟨w2.heap.size + 1, 1, none⟩ (.int .i64 y)) (w2.heap.size + 1) (pf l x (1 + 1)) ∧ Below w.heap.size w (w4.setCell ⟨w2.heap.size + 1, 1, none⟩ (.int .i64 y)) ∧ (w4.setCell ⟨w2.heap.size + 1, 1, none⟩ (.int .i64 y)).heap[w.heap.size]? = some (.cells #[.int .i64 0, .slice none 0 0] 49)) :=
            ⟨(HA1.below hb4 (by omega)).other (by omega) _, (HB2.set (by omega) y).congr HST.out, (below_after_of HA3 hb4).setCell (by show w.heap.size ≤ w2.heap.size + 1; omega) _, (heap_setCell_other w4 ⟨w2.heap.size + 1, 1, none⟩ w.heap.size _ (by show w.heap.size ≠ w2.heap.size + 1; omega)).trans ((hb4.block w.heap.size (by omega)).trans HA4)⟩
          clear hPS HI3 HA1 HA2 HA3 HA4 HB2 hb4 HST HP3 c0 c1 c2 c3 c4 c5 c6 c7 c8
          go_wp2
          go_roundw
          case rel => exact ⟨1 + 1, by omega, by go_num, by simp; omega, HI4⟩
          case measure => simp [intOf]
      · obtain ⟨r, hr⟩ : ∃ r : Int, r = sib x 2 := ⟨_, rfl⟩
        have hrb : (r = x / 4 + 1 ∨ r = x / 4 - 1 ∧ 1 ≤ x / 4) := by
          rw [hr]
          unfold sib
          rw [show ((2 ^ 2 : Nat) : Int) = 4 from rfl]
          split
          · exact Or.inl rfl
          · right; omega
        have hrr : 0 ≤ r ∧ r * 4 + 4 ≤ 1000 := by omega
        have ex : bits BinOp.xor IntKind.i64 (x / 4) 1 = r := by
          rw [xor_one (by omega) (by omega), hr]
          unfold sib
          rw [show ((2 ^ 2 : Nat) : Int) = 4 from rfl]
          skip
        have ecut : cut l (r * ((2 ^ 2 : Nat) : Int)) (r * ((2 ^ 2 : Nat) : Int) + ((2 ^ 2 : Nat) : Int)) = cut l (r * 4) (r * 4 + 4) := by
          rw [show ((2 ^ 2 : Nat) : Int) = 4 from rfl]
        have esd := nd_side HSL.out.ris HSL.out.fin 2 r
        have eno : cut l (r * 4) (r * 4 + 4) = [] → nd l 2 r = emp 2 := fun h => nd_none (cut_has.1 (by rw [ecut]; exact h))
        rw [ecut] at esd
        have hcl := cut_len l (r * 4) (r * 4 + 4)
        have hcr := cut_ris HSL.out.ris (r * 4) (r * 4 + 4)
        have hcf := cut_fine (a := r * 4) (b := r * 4 + 4) HSL.out.fin
        have hSB := fun w' h => slotsBetween_any (.slice ad n c) l (r * 4) (r * 4 + 4) w' (HV.out w' h) HOK.out HSL.out.len HSL.out.ris (by omega)
        have HST : Hid (∀ j, j < 9 → (fun j => if j = 2 then nd l 2 r else pf l x 2 j) j = pf l x (2 + 1) j) := by rw [hr]; exact pf_step
        have HSK : Hid (nd l 2 r = emp 2 → ∀ j, j < 9 → pf l x 2 j = pf l x (2 + 1) j) := fun h => pf_skip (by rw [← hr]; exact h)
        generalize cut l (r * 4) (r * 4 + 4) = m at *
        have hPS := fun u w' hu => partSum_any u m 2 w' hu (by omega) hcr hcf (by omega)
        rw [esd] at hPS
        simp only [arrA] at hPS
        rw [show ((2 : Nat) : Int) = 2 from rfl] at hPS
        have HNO : Hid (m = [] → nd l 2 r = emp 2) := eno
        have hm12 : m.length ≤ 12 := by omega
        generalize nd l 2 r = y at *
        clear hKK hk hk8 ecut esd eno hcl hcr hcf hr hl12 hrb
        go_wp2_with fail
        refine (hSB _ HI.out.2.2.1).mono ?_
        rintro e w3 ⟨⟨ad3, cc3, rfl, hp3, -⟩, hb3⟩
        have hp3 := hp3.below hb3
        have hz3 := hb3.size
        obtain ⟨HA1, HA2, HA3, HA4⟩ := HI.out
        have HI3 : Hid (ArrB w3 w2.heap.size emp ∧ ArrB w3 (w2.heap.size + 1) (pf l x 2) ∧ Below w.heap.size w w3 ∧ w3.heap[w.heap.size]? = some (.cells #[.int .i64 0, .slice none 0 0] 49)) := ⟨HA1.below hb3 (by omega), HA2.below hb3 (by omega), below_after_of HA3 hb3, (hb3.block w.heap.size (by omega)).trans HA4⟩
        have hz4 : w2.heap.size + 2 ≤ w3.heap.size := by omega
        clear hSB HI HA1 HA2 HA3 HA4 hb3 hz
        by_cases hm0 : m = []
        · have HS2 : Hid (∀ j, j < 9 → pf l x 2 j = pf l x (2 + 1) j) := HSK.out (HNO.out hm0)
          subst hm0
          simp only [List.length_nil]
          clear hPS hp3 HST HSK HNO
          go_wp2
          go_roundw
          case rel => exact ⟨2 + 1, by omega, by go_num, by omega, ⟨HI3.out.1, HI3.out.2.1.congr HS2.out, HI3.out.2.2.1, HI3.out.2.2.2⟩⟩
          case measure => simp [intOf]
        · have hml : (0 : Int) < (m.length : Int) := by have : 0 < m.length := List.length_pos_iff.2 hm0; omega
          obtain ⟨c0, c1, c2, c3, c4, c5, c6, c7, c8⟩ := HI3.out.1.at.cells
          have HP3 : Hid (Prs w3 (.slice ad3 m.length cc3) m) := hp3
          clear hm0 HSK HNO hp3
          go_wp2_with fail
          refine (hPS _ _ HP3.out).mono ?_
          rintro e w4 ⟨rfl, hb4⟩
          obtain ⟨HA1, HA2, HA3, HA4⟩ := HI3.out
          have HB2 := HA2.below hb4 (by omega)
          have k1 := HB2.at.c 2 (by omega)
          have z1 := HB2.at.z 2 (by omega)
          have hz5 := hb4.size
          have HI4 : Hid (ArrB (w4.setCell ⟨w2.heap.size + 1, 2, none⟩ (.int .i64 y)) w2.heap.size emp ∧ ArrB (w4.setCell ⟨w2.heap.size + 1, 2, none⟩ (.int .i64 y)) (w2.heap.size + 1) (pf l x (2 + 1)) ∧ Below w.heap.size w (w4.setCell ⟨w2.heap.size + 1, 2, none⟩ (.int .i64 y)) ∧ (w4.setCell ⟨w2.heap.size + 1, 2, none⟩ (.int .i64 y)).heap[w.heap.size]? = some (.cells #[.int .i64 0, .slice none 0 0] 49)) :=
            ⟨(HA1.below hb4 (by omega)).other (by omega) _, (HB2.set (by omega) y).congr HST.out, (below_after_of HA3 hb4).setCell (by show w.heap.size ≤ w2.heap.size + 1; omega) _, (heap_setCell_other w4 ⟨w2.heap.size + 1, 2, none⟩ w.heap.size _ (by show w.heap.size ≠ w2.heap.size + 1; omega)).trans ((hb4.block w.heap.size (by omega)).trans HA4)⟩
          clear hPS HI3 HA1 HA2 HA3 HA4 HB2 hb4 HST HP3 c0 c1 c2 c3 c4 c5 c6 c7 c8
          go_wp2
          go_roundw
          case rel => exact ⟨2 + 1, by omega, by go_num, by simp; omega, HI4⟩
          case measure => simp [intOf]
      · obtain ⟨r, hr⟩ : ∃ r : Int, r = sib x 3 := ⟨_, rfl⟩
        have hrb : (r = x / 8 + 1 ∨ r = x / 8 - 1 ∧ 1 ≤ x / 8) := by
          rw [hr]
          unfold sib
          rw [show ((2 ^ 3 : Nat) : Int) = 8 from rfl]
          split
          · exact Or.inl rfl
          · right; omega
        have hrr : 0 ≤ r ∧ r * 8 + 8 ≤ 1000 := by omega
        have ex : bits BinOp.xor IntKind.i64 (x / 8) 1 = r := by
          rw [xor_one (by omega) (by omega), hr]
          unfold sib
          rw [show ((2 ^ 3 : Nat) : Int) = 8 from rfl]
          skip
        have ecut : cut l (r * ((2 ^ 3 : Nat) : Int)) (r * ((2 ^ 3 : Nat) : Int) + ((2 ^ 3 : Nat) : Int)) = cut l (r * 8) (r * 8 + 8) := by
          rw [show ((2 ^ 3 : Nat) : Int) = 8 from rfl]
        have esd := nd_side HSL.out.ris HSL.out.fin 3 r
        have eno : cut l (r * 8) (r * 8 + 8) = [] → nd l 3 r = emp 3 := fun h => nd_none (cut_has.1 (by rw [ecut]; exact h))
        rw [ecut] at esd
        have hcl := cut_len l (r * 8) (r * 8 + 8)
        have hcr := cut_ris HSL.out.ris (r * 8) (r * 8 + 8)
        have hcf := cut_fine (a := r * 8) (b := r * 8 + 8) HSL.out.fin
        have hSB := fun w' h => slotsBetween_any (.slice ad n c) l (r * 8) (r * 8 + 8) w' (HV.out w' h) HOK.out HSL.out.len HSL.out.ris (by omega)
        have HST : Hid (∀ j, j < 9 → (fun j => if j = 3 then nd l 3 r else pf l x 3 j) j = pf l x (3 + 1) j) := by rw [hr]; exact pf_step
        have HSK : Hid (nd l 3 r = emp 3 → ∀ j, j < 9 → pf l x 3 j = pf l x (3 + 1) j) := fun h => pf_skip (by rw [← hr]; exact h)
        generalize cut l (r * 8) (r * 8 + 8) = m at *
        have hPS := fun u w' hu => partSum_any u m 3 w' hu (by omega) hcr hcf (by omega)
        rw [esd] at hPS
        simp only [arrA] at hPS
        rw [show ((3 : Nat) : Int) = 3 from rfl] at hPS
        have HNO : Hid (m = [] → nd l 3 r = emp 3) := eno
        have hm12 : m.length ≤ 12 := by omega
        generalize nd l 3 r = y at *
        clear hKK hk hk8 ecut esd eno hcl hcr hcf hr hl12 hrb
        go_wp2_with fail
        refine (hSB _ HI.out.2.2.1).mono ?_
        rintro e w3 ⟨⟨ad3, cc3, rfl, hp3, -⟩, hb3⟩
        have hp3 := hp3.below hb3
        have hz3 := hb3.size
        obtain ⟨HA1, HA2, HA3, HA4⟩ := HI.out
        have HI3 : Hid (ArrB w3 w2.heap.size emp ∧ ArrB w3 (w2.heap.size + 1) (pf l x 3) ∧ Below w.heap.size w w3 ∧ w3.heap[w.heap.size]? = some (.cells #[.int .i64 0, .slice none 0 0] 49)) := ⟨HA1.below hb3 (by omega), HA2.below hb3 (by omega), below_after_of HA3 hb3, (hb3.block w.heap.size (by omega)).trans HA4⟩
        have hz4 : w2.heap.size + 2 ≤ w3.heap.size := by omega
        clear hSB HI HA1 HA2 HA3 HA4 hb3 hz
        by_cases hm0 : m = []
        · have HS2 : Hid (∀ j, j < 9 → pf l x 3 j = pf l x (3 + 1) j) := HSK.out (HNO.out hm0)
          subst hm0
          simp only [List.length_nil]
          clear hPS hp3 HST HSK HNO
          go_wp2
          go_roundw
          case rel => exact ⟨3 + 1, by omega, by go_num, by omega, ⟨HI3.out.1, HI3.out.2.1.congr HS2.out, HI3.out.2.2.1, HI3.out.2.2.2⟩⟩
          case measure => simp [intOf]
        · have hml : (0 : Int) < (m.length : Int) := by have : 0 < m.length := List.length_pos_iff.2 hm0; omega
          obtain ⟨c0, c1, c2, c3, c4, c5, c6, c7, c8⟩ := HI3.out.1.at.cells
          have HP3 : Hid (Prs w3 (.slice ad3 m.length cc3) m) := hp3
          clear hm0 HSK HNO hp3
          go_wp2_with fail
          refine (hPS _ _ HP3.out).mono ?_
          rintro e w4 ⟨rfl, hb4⟩
          obtain ⟨HA1, HA2, HA3, HA4⟩ := HI3.out
          have HB2 := HA2.below hb4 (by omega)
          have k1 := HB2.at.c 3 (by omega)
          have z1 := HB2.at.z 3 (by omega)
          have hz5 := hb4.size
          have HI4 : Hid (ArrB (w4.setCell ⟨w2.heap.size + 1, 3, none⟩ (.int .i64 y)) w2.heap.size emp ∧ ArrB (w4.setCell ⟨w2.heap.size + 1, 3, none⟩ (.int .i64 y)) (w2.heap.size + 1) (pf l x (3 + 1)) ∧ Below w.heap.size w (w4.setCell ⟨w2.heap.size + 1, 3, none⟩ (.int .i64 y)) ∧ (w4.setCell ⟨w2.heap.size + 1, 3, none⟩ (.int .i64 y)).heap[w.heap.size]? = some (.cells #[.int .i64 0, .slice none 0 0] 49)) :=
            ⟨(HA1.below hb4 (by omega)).other (by omega) _, (HB2.set (by omega) y).congr HST.out, (below_after_of HA3 hb4).setCell (by show w.heap.size ≤ w2.heap.size + 1; omega) _, (heap_setCell_other w4 ⟨w2.heap.size + 1, 3, none⟩ w.heap.size _ (by show w.heap.size ≠ w2.heap.size + 1; omega)).trans ((hb4.block w.heap.size (by omega)).trans HA4)⟩
          clear hPS HI3 HA1 HA2 HA3 HA4 HB2 hb4 HST HP3 c0 c1 c2 c3 c4 c5 c6 c7 c8
          go_wp2
          go_roundw
          case rel => exact ⟨3 + 1, by omega, by go_num, by simp; omega, HI4⟩
          case measure => simp [intOf]
      · obtain ⟨r, hr⟩ : ∃ r : Int, r = sib x 4 := ⟨_, rfl⟩
        have hrb : (r = x / 16 + 1 ∨ r = x / 16 - 1 ∧ 1 ≤ x / 16) := by
          rw [hr]
          unfold sib
          rw [show ((2 ^ 4 : Nat) : Int) = 16 from rfl]
          split
          · exact Or.inl rfl
          · right; omega
        have hrr : 0 ≤ r ∧ r * 16 + 16 ≤ 1000 := by omega
        have ex : bits BinOp.xor IntKind.i64 (x / 16) 1 = r := by
          rw [xor_one (by omega) (by omega), hr]
          unfold sib
          rw [show ((2 ^ 4 : Nat) : Int) = 16 from rfl]
          skip
        have ecut : cut l (r * ((2 ^ 4 : Nat) : Int)) (r * ((2 ^ 4 : Nat) : Int) + ((2 ^ 4 : Nat) : Int)) = cut l (r * 16) (r * 16 + 16) := by
          rw [show ((2 ^ 4 : Nat) : Int) = 16 from rfl]
        have esd := nd_side HSL.out.ris HSL.out.fin 4 r
        have eno : cut l (r * 16) (r * 16 + 16) = [] → nd l 4 r = emp 4 := fun h => nd_none (cut_has.1 (by rw [ecut]; exact h))
        rw [ecut] at esd
        have hcl := cut_len l (r * 16) (r * 16 + 16)
        have hcr := cut_ris HSL.out.ris (r * 16) (r * 16 + 16)
        have hcf := cut_fine (a := r * 16) (b := r * 16 + 16) HSL.out.fin
        have hSB := fun w' h => slotsBetween_any (.slice ad n c) l (r * 16) (r * 16 + 16) w' (HV.out w' h) HOK.out HSL.out.len HSL.out.ris (by omega)
        have HST : Hid (∀ j, j < 9 → (fun j => if j = 4 then nd l 4 r else pf l x 4 j) j = pf l x (4 + 1) j) := by rw [hr]; exact pf_step
        have HSK : Hid (nd l 4 r = emp 4 → ∀ j, j < 9 → pf l x 4 j = pf l x (4 + 1) j) := fun h => pf_skip (by rw [← hr]; exact h)
        generalize cut l (r * 16) (r * 16 + 16) = m at *
        have hPS := fun u w' hu => partSum_any u m 4 w' hu (by omega) hcr hcf (by omega)
        rw [esd] at hPS
        simp only [arrA] at hPS
        rw [show ((4 : Nat) : Int) = 4 from rfl] at hPS
        have HNO : Hid (m = [] → nd l 4 r = emp 4) := eno
        have hm12 : m.length ≤ 12 := by omega
        generalize nd l 4 r = y at *
        clear hKK hk hk8 ecut esd eno hcl hcr hcf hr hl12 hrb
        go_wp2_with fail
        refine (hSB _ HI.out.2.2.1).mono ?_
        rintro e w3 ⟨⟨ad3, cc3, rfl, hp3, -⟩, hb3⟩
        have hp3 := hp3.below hb3
        have hz3 := hb3.size
        obtain ⟨HA1, HA2, HA3, HA4⟩ := HI.out
        have HI3 : Hid (ArrB w3 w2.heap.size emp ∧ ArrB w3 (w2.heap.size + 1) (pf l x 4) ∧ Below w.heap.size w w3 ∧ w3.heap[w.heap.size]? = some (.cells #[.int .i64 0, .slice none 0 0] 49)) := ⟨HA1.below hb3 (by omega), HA2.below hb3 (by omega), below_after_of HA3 hb3, (hb3.block w.heap.size (by omega)).trans HA4⟩
        have hz4 : w2.heap.size + 2 ≤ w3.heap.size := by omega
        clear hSB HI HA1 HA2 HA3 HA4 hb3 hz
        by_cases hm0 : m = []
        · have HS2 : Hid (∀ j, j < 9 → pf l x 4 j = pf l x (4 + 1) j) := HSK.out (HNO.out hm0)
          subst hm0
          simp only [List.length_nil]
          clear hPS hp3 HST HSK HNO
          go_wp2
          go_roundw
          case rel => exact ⟨4 + 1, by omega, by go_num, by omega, ⟨HI3.out.1, HI3.out.2.1.congr HS2.out, HI3.out.2.2.1, HI3.out.2.2.2⟩⟩
          case measure => simp [intOf]
        · have hml : (0 : Int) < (m.length : Int) := by have : 0 < m.length := List.length_pos_iff.2 hm0; omega
          obtain ⟨c0, c1, c2, c3, c4, c5, c6, c7, c8⟩ := HI3.out.1.at.cells
          have HP3 : Hid (Prs w3 (.slice ad3 m.length cc3) m) := hp3
          clear hm0 HSK HNO hp3
          go_wp2_with fail
          refine (hPS _ _ HP3.out).mono ?_
          rintro e w4 ⟨rfl, hb4⟩
          obtain ⟨HA1, HA2, HA3, HA4⟩ := HI3.out
          have HB2 := HA2.below hb4 (by omega)
          have k1 := HB2.at.c 4 (by omega)
          have z1 := HB2.at.z 4 (by omega)
          have hz5 := hb4.size
          have HI4 : Hid (ArrB (w4.setCell ⟨w2.heap.size + 1, 4, none⟩ (.int .i64 y)) w2.heap.size emp ∧ ArrB (w4.setCell ⟨w2.heap.size + 1, 4, none⟩ (.int .i64 y)) (w2.heap.size + 1) (pf l x (4 + 1)) ∧ Below w.heap.size w (w4.setCell ⟨w2.heap.size + 1, 4, none⟩ (.int .i64 y)) ∧ (w4.setCell ⟨w2.heap.size + 1, 4, none⟩ (.int .i64 y)).heap[w.heap.size]? = some (.cells #[.int .i64 0, .slice none 0 0] 49)) :=
            ⟨(HA1.below hb4 (by omega)).other (by omega) _, (HB2.set (by omega) y).congr HST.out, (below_after_of HA3 hb4).setCell (by show w.heap.size ≤ w2.heap.size + 1; omega) _, (heap_setCell_other w4 ⟨w2.heap.size + 1, 4, none⟩ w.heap.size _ (by show w.heap.size ≠ w2.heap.size + 1; omega)).trans ((hb4.block w.heap.size (by omega)).trans HA4)⟩
          clear hPS HI3 HA1 HA2 HA3 HA4 HB2 hb4 HST HP3 c0 c1 c2 c3 c4 c5 c6 c7 c8
          go_wp2
          go_roundw
          case rel => exact ⟨4 + 1, by omega, by go_num, by simp; omega, HI4⟩
          case measure => simp [intOf]
      · obtain ⟨r, hr⟩ : ∃ r : Int, r = sib x 5 := ⟨_, rfl⟩
        have hrb : (r = x / 32 + 1 ∨ r = x / 32 - 1 ∧ 1 ≤ x / 32) := by
          rw [hr]
          unfold sib
          rw [show ((2 ^ 5 : Nat) : Int) = 32 from rfl]
          split
          · exact Or.inl rfl
          · right; omega
        have hrr : 0 ≤ r ∧ r * 32 + 32 ≤ 1000 := by omega
        have ex : bits BinOp.xor IntKind.i64 (x / 32) 1 = r := by
          rw [xor_one (by omega) (by omega), hr]
          unfold sib
          rw [show ((2 ^ 5 : Nat) : Int) = 32 from rfl]
          skip
        have ecut : cut l (r * ((2 ^ 5 : Nat) : Int)) (r * ((2 ^ 5 : Nat) : Int) + ((2 ^ 5 : Nat) : Int)) = cut l (r * 32) (r * 32 + 32) := by
          rw [show ((2 ^ 5 : Nat) : Int) = 32 from rfl]
        have esd := nd_side HSL.out.ris HSL.out.fin 5 r
        have eno : cut l (r * 32) (r * 32 + 32) = [] → nd l 5 r = emp 5 := fun h => nd_none (cut_has.1 (by rw [ecut]; exact h))
        rw [ecut] at esd
        have hcl := cut_len l (r * 32) (r * 32 + 32)
        have hcr := cut_ris HSL.out.ris (r * 32) (r * 32 + 32)
        have hcf := cut_fine (a := r * 32) (b := r * 32 + 32) HSL.out.fin
        have hSB := fun w' h => slotsBetween_any (.slice ad n c) l (r * 32) (r * 32 + 32) w' (HV.out w' h) HOK.out HSL.out.len HSL.out.ris (by omega)
        have HST : Hid (∀ j, j < 9 → (fun j => if j = 5 then nd l 5 r else pf l x 5 j) j = pf l x (5 + 1) j) := by rw [hr]; exact pf_step
        have HSK : Hid (nd l 5 r = emp 5 → ∀ j, j < 9 → pf l x 5 j = pf l x (5 + 1) j) := fun h => pf_skip (by rw [← hr]; exact h)
        generalize cut l (r * 32) (r * 32 + 32) = m at *
        have hPS := fun u w' hu => partSum_any u m 5 w' hu (by omega) hcr hcf (by omega)
        rw [esd] at hPS
        simp only [arrA] at hPS
        rw [show ((5 : Nat) : Int) = 5 from rfl] at hPS
        have HNO : Hid (m = [] → nd l 5 r = emp 5) := eno
        have hm12 : m.length ≤ 12 := by omega
        generalize nd l 5 r = y at *
        clear hKK hk hk8 ecut esd eno hcl hcr hcf hr hl12 hrb
        go_wp2_with fail
        refine (hSB _ HI.out.2.2.1).mono ?_
        rintro e w3 ⟨⟨ad3, cc3, rfl, hp3, -⟩, hb3⟩
        have hp3 := hp3.below hb3
        have hz3 := hb3.size
        obtain ⟨HA1, HA2, HA3, HA4⟩ := HI.out
        have HI3 : Hid (ArrB w3 w2.heap.size emp ∧ ArrB w3 (w2.heap.size + 1) (pf l x 5) ∧ Below w.heap.size w w3 ∧ w3.heap[w.heap.size]? = some (.cells #[.int .i64 0, .slice none 0 0] 49)) := ⟨HA1.below hb3 (by omega), HA2.below hb3 (by omega), below_after_of HA3 hb3, (hb3.block w.heap.size (by omega)).trans HA4⟩
        have hz4 : w2.heap.size + 2 ≤ w3.heap.size := by omega
        clear hSB HI HA1 HA2 HA3 HA4 hb3 hz
        by_cases hm0 : m = []
        · have HS2 : Hid (∀ j, j < 9 → pf l x 5 j = pf l x (5 + 1) j) := HSK.out (HNO.out hm0)
          subst hm0
          simp only [List.length_nil]
          clear hPS hp3 HST HSK HNO
          go_wp2
          go_roundw
          case rel => exact ⟨5 + 1, by omega, by go_num, by omega, ⟨HI3.out.1, HI3.out.2.1.congr HS2.out, HI3.out.2.2.1, HI3.out.2.2.2⟩⟩
          case measure => simp [intOf]
        · have hml : (0 : Int) < (m.length : Int) := by have : 0 < m.length := List.length_pos_iff.2 hm0; omega
          obtain ⟨c0, c1, c2, c3, c4, c5, c6, c7, c8⟩ := HI3.out.1.at.cells
          have HP3 : Hid (Prs w3 (.slice ad3 m.length cc3) m) := hp3
          clear hm0 HSK HNO hp3
          go_wp2_with fail
          refine (hPS _ _ HP3.out).mono ?_
          rintro e w4 ⟨rfl, hb4⟩
          obtain ⟨HA1, HA2, HA3, HA4⟩ := HI3.out
          have HB2 := HA2.below hb4 (by omega)
          have k1 := HB2.at.c 5 (by omega)
          have z1 := HB2.at.z 5 (by omega)
          have hz5 := hb4.size
          have HI4 : Hid (ArrB (w4.setCell ⟨w2.heap.size + 1, 5, none⟩ (.int .i64 y)) w2.heap.size emp ∧ ArrB (w4.setCell ⟨w2.heap.size + 1, 5, none⟩ (.int .i64 y)) (w2.heap.size + 1) (pf l x (5 + 1)) ∧ Below w.heap.size w (w4.setCell ⟨w2.heap.size + 1, 5, none⟩ (.int .i64 y)) ∧ (w4.setCell ⟨w2.heap.size + 1, 5, none⟩ (.int .i64 y)).heap[w.heap.size]? = some (.cells #[.int .i64 0, .slice none 0 0] 49)) :=
            ⟨(HA1.below hb4 (by omega)).other (by omega) _, (HB2.set (by omega) y).congr HST.out, (below_after_of HA3 hb4).setCell (by show w.heap.size ≤ w2.heap.size + 1; omega) _, (heap_setCell_other w4 ⟨w2.heap.size + 1, 5, none⟩ w.heap.size _ (by show w.heap.size ≠ w2.heap.size + 1; omega)).trans ((hb4.block w.heap.size (by omega)).trans HA4)⟩
          clear hPS HI3 HA1 HA2 HA3 HA4 HB2 hb4 HST HP3 c0 c1 c2 c3 c4 c5 c6 c7 c8
          go_wp2
          go_roundw
          case rel => exact ⟨5 + 1, by omega, by go_num, by simp; omega, HI4⟩
          case measure => simp [intOf]
      · obtain ⟨r, hr⟩ : ∃ r : Int, r = sib x 6 := ⟨_, rfl⟩
        have hrb : (r = x / 64 + 1 ∨ r = x / 64 - 1 ∧ 1 ≤ x / 64) := by
          rw [hr]
          unfold sib
          rw [show ((2 ^ 6 : Nat) : Int) = 64 from rfl]
          split
          · exact Or.inl rfl
          · right; omega
        have hrr : 0 ≤ r ∧ r * 64 + 64 ≤ 1000 := by omega
        have ex : bits BinOp.xor IntKind.i64 (x / 64) 1 = r := by
          rw [xor_one (by omega) (by omega), hr]
          unfold sib
          rw [show ((2 ^ 6 : Nat) : Int) = 64 from rfl]
          skip
        have ecut : cut l (r * ((2 ^ 6 : Nat) : Int)) (r * ((2 ^ 6 : Nat) : Int) + ((2 ^ 6 : Nat) : Int)) = cut l (r * 64) (r * 64 + 64) := by
          rw [show ((2 ^ 6 : Nat) : Int) = 64 from rfl]
        have esd := nd_side HSL.out.ris HSL.out.fin 6 r
        have eno : cut l (r * 64) (r * 64 + 64) = [] → nd l 6 r = emp 6 := fun h => nd_none (cut_has.1 (by rw [ecut]; exact h))
        rw [ecut] at esd
        have hcl := cut_len l (r * 64) (r * 64 + 64)
        have hcr := cut_ris HSL.out.ris (r * 64) (r * 64 + 64)
        have hcf := cut_fine (a := r * 64) (b := r * 64 + 64) HSL.out.fin
        have hSB := fun w' h => slotsBetween_any (.slice ad n c) l (r * 64) (r * 64 + 64) w' (HV.out w' h) HOK.out HSL.out.len HSL.out.ris (by omega)
        have HST : Hid (∀ j, j < 9 → (fun j => if j = 6 then nd l 6 r else pf l x 6 j) j = pf l x (6 + 1) j) := by rw [hr]; exact pf_step
        have HSK : Hid (nd l 6 r = emp 6 → ∀ j, j < 9 → pf l x 6 j = pf l x (6 + 1) j) := fun h => pf_skip (by rw [← hr]; exact h)
        generalize cut l (r * 64) (r * 64 + 64) = m at *
        have hPS := fun u w' hu => partSum_any u m 6 w' hu (by omega) hcr hcf (by omega)
        rw [esd] at hPS
        simp only [arrA] at hPS
        rw [show ((6 : Nat) : Int) = 6 from rfl] at hPS
        have HNO : Hid (m = [] → nd l 6 r = emp 6) := eno
        have hm12 : m.length ≤ 12 := by omega
        generalize nd l 6 r = y at *
        clear hKK hk hk8 ecut esd eno hcl hcr hcf hr hl12 hrb
        go_wp2_with fail
        refine (hSB _ HI.out.2.2.1).mono ?_
        rintro e w3 ⟨⟨ad3, cc3, rfl, hp3, -⟩, hb3⟩
        have hp3 := hp3.below hb3
        have hz3 := hb3.size
        obtain ⟨HA1, HA2, HA3, HA4⟩ := HI.out
        have HI3 : Hid (ArrB w3 w2.heap.size emp ∧ ArrB w3 (w2.heap.size + 1) (pf l x 6) ∧ Below w.heap.size w w3 ∧ w3.heap[w.heap.size]? = some (.cells #[.int .i64 0, .slice none 0 0] 49)) := ⟨HA1.below hb3 (by omega), HA2.below hb3 (by omega), below_after_of HA3 hb3, (hb3.block w.heap.size (by omega)).trans HA4⟩
        have hz4 : w2.heap.size + 2 ≤ w3.heap.size := by omega
        clear hSB HI HA1 HA2 HA3 HA4 hb3 hz
        by_cases hm0 : m = []
        · have HS2 : Hid (∀ j, j < 9 → pf l x 6 j = pf l x (6 + 1) j) := HSK.out (HNO.out hm0)
          subst hm0
          simp only [List.length_nil]
          clear hPS hp3 HST HSK HNO
          go_wp2
          go_roundw
          case rel => exact ⟨6 + 1, by omega, by go_num, by omega, ⟨HI3.out.1, HI3.out.2.1.congr HS2.out, HI3.out.2.2.1, HI3.out.2.2.2⟩⟩
          case measure => simp [intOf]
        · have hml : (0 : Int) < (m.length : Int) := by have : 0 < m.length := List.length_pos_iff.2 hm0; omega
          obtain ⟨c0, c1, c2, c3, c4, c5, c6, c7, c8⟩ := HI3.out.1.at.cells
          have HP3 : Hid (Prs w3 (.slice ad3 m.length cc3) m) := hp3
          clear hm0 HSK HNO hp3
          go_wp2_with fail
          refine (hPS _ _ HP3.out).mono ?_
          rintro e w4 ⟨rfl, hb4⟩
          obtain ⟨HA1, HA2, HA3, HA4⟩ := HI3.out
          have HB2 := HA2.below hb4 (by omega)
          have k1 := HB2.at.c 6 (by omega)
          have z1 := HB2.at.z 6 (by omega)
          have hz5 := hb4.size
          have HI4 : Hid (ArrB (w4.setCell ⟨w2.heap.size + 1, 6, none⟩ (.int .i64 y)) w2.heap.size emp ∧ ArrB (w4.setCell ⟨w2.heap.size + 1, 6, none⟩ (.int .i64 y)) (w2.heap.size + 1) (pf l x (6 + 1)) ∧ Below w.heap.size w (w4.setCell ⟨w2.heap.size + 1, 6, none⟩ (.int .i64 y)) ∧ (w4.setCell ⟨w2.heap.size + 1, 6, none⟩ (.int .i64 y)).heap[w.heap.size]? = some (.cells #[.int .i64 0, .slice none 0 0] 49)) :=
            ⟨(HA1.below hb4 (by omega)).other (by omega) _, (HB2.set (by omega) y).congr HST.out, (below_after_of HA3 hb4).setCell (by show w.heap.size ≤ w2.heap.size + 1; omega) _, (heap_setCell_other w4 ⟨w2.heap.size + 1, 6, none⟩ w.heap.size _ (by show w.heap.size ≠ w2.heap.size + 1; omega)).trans ((hb4.block w.heap.size (by omega)).trans HA4)⟩
          clear hPS HI3 HA1 HA2 HA3 HA4 HB2 hb4 HST HP3 c0 c1 c2 c3 c4 c5 c6 c7 c8
          go_wp2
          go_roundw
          case rel => exact ⟨6 + 1, by omega, by go_num, by simp; omega, HI4⟩
          case measure => simp [intOf]
      · obtain ⟨r, hr⟩ : ∃ r : Int, r = sib x 7 := ⟨_, rfl⟩
        have hrb : (r = x / 128 + 1 ∨ r = x / 128 - 1 ∧ 1 ≤ x / 128) := by
          rw [hr]
          unfold sib
          rw [show ((2 ^ 7 : Nat) : Int) = 128 from rfl]
          split
          · exact Or.inl rfl
          · right; omega
        have hrr : 0 ≤ r ∧ r * 128 + 128 ≤ 1000 := by omega
        have ex : bits BinOp.xor IntKind.i64 (x / 128) 1 = r := by
          rw [xor_one (by omega) (by omega), hr]
          unfold sib
          rw [show ((2 ^ 7 : Nat) : Int) = 128 from rfl]
          skip
        have ecut : cut l (r * ((2 ^ 7 : Nat) : Int)) (r * ((2 ^ 7 : Nat) : Int) + ((2 ^ 7 : Nat) : Int)) = cut l (r * 128) (r * 128 + 128) := by
          rw [show ((2 ^ 7 : Nat) : Int) = 128 from rfl]
        have esd := nd_side HSL.out.ris HSL.out.fin 7 r
        have eno : cut l (r * 128) (r * 128 + 128) = [] → nd l 7 r = emp 7 := fun h => nd_none (cut_has.1 (by rw [ecut]; exact h))
        rw [ecut] at esd
        have hcl := cut_len l (r * 128) (r * 128 + 128)
        have hcr := cut_ris HSL.out.ris (r * 128) (r * 128 + 128)
        have hcf := cut_fine (a := r * 128) (b := r * 128 + 128) HSL.out.fin
        have hSB := fun w' h => slotsBetween_any (.slice ad n c) l (r * 128) (r * 128 + 128) w' (HV.out w' h) HOK.out HSL.out.len HSL.out.ris (by omega)
        have HST : Hid (∀ j, j < 9 → (fun j => if j = 7 then nd l 7 r else pf l x 7 j) j = pf l x (7 + 1) j) := by rw [hr]; exact pf_step
        have HSK : Hid (nd l 7 r = emp 7 → ∀ j, j < 9 → pf l x 7 j = pf l x (7 + 1) j) := fun h => pf_skip (by rw [← hr]; exact h)
        generalize cut l (r * 128) (r * 128 + 128) = m at *
        have hPS := fun u w' hu => partSum_any u m 7 w' hu (by omega) hcr hcf (by omega)
        rw [esd] at hPS
        simp only [arrA] at hPS
        rw [show ((7 : Nat) : Int) = 7 from rfl] at hPS
        have HNO : Hid (m = [] → nd l 7 r = emp 7) := eno
        have hm12 : m.length ≤ 12 := by omega
        generalize nd l 7 r = y at *
        clear hKK hk hk8 ecut esd eno hcl hcr hcf hr hl12 hrb
        go_wp2_with fail
        refine (hSB _ HI.out.2.2.1).mono ?_
        rintro e w3 ⟨⟨ad3, cc3, rfl, hp3, -⟩, hb3⟩
        have hp3 := hp3.below hb3
        have hz3 := hb3.size
        obtain ⟨HA1, HA2, HA3, HA4⟩ := HI.out
        have HI3 : Hid (ArrB w3 w2.heap.size emp ∧ ArrB w3 (w2.heap.size + 1) (pf l x 7) ∧ Below w.heap.size w w3 ∧ w3.heap[w.heap.size]? = some (.cells #[.int .i64 0, .slice none 0 0] 49)) := ⟨HA1.below hb3 (by omega), HA2.below hb3 (by omega), below_after_of HA3 hb3, (hb3.block w.heap.size (by omega)).trans HA4⟩
        have hz4 : w2.heap.size + 2 ≤ w3.heap.size := by omega
        clear hSB HI HA1 HA2 HA3 HA4 hb3 hz
        by_cases hm0 : m = []
        · have HS2 : Hid (∀ j, j < 9 → pf l x 7 j = pf l x (7 + 1) j) := HSK.out (HNO.out hm0)
          subst hm0
          simp only [List.length_nil]
          clear hPS hp3 HST HSK HNO
          go_wp2
          go_roundw
          case rel => exact ⟨7 + 1, by omega, by go_num, by omega, ⟨HI3.out.1, HI3.out.2.1.congr HS2.out, HI3.out.2.2.1, HI3.out.2.2.2⟩⟩
          case measure => simp [intOf]
        · have hml : (0 : Int) < (m.length : Int) := by have : 0 < m.length := List.length_pos_iff.2 hm0; omega
          obtain ⟨c0, c1, c2, c3, c4, c5, c6, c7, c8⟩ := HI3.out.1.at.cells
          have HP3 : Hid (Prs w3 (.slice ad3 m.length cc3) m) := hp3
          clear hm0 HSK HNO hp3
          go_wp2_with fail
          refine (hPS _ _ HP3.out).mono ?_
          rintro e w4 ⟨rfl, hb4⟩
          obtain ⟨HA1, HA2, HA3, HA4⟩ := HI3.out
          have HB2 := HA2.below hb4 (by omega)
          have k1 := HB2.at.c 7 (by omega)
          have z1 := HB2.at.z 7 (by omega)
          have hz5 := hb4.size
          have HI4 : Hid (ArrB (w4.setCell ⟨w2.heap.size + 1, 7, none⟩ (.int .i64 y)) w2.heap.size emp ∧ ArrB (w4.setCell ⟨w2.heap.size + 1, 7, none⟩ (.int .i64 y)) (w2.heap.size + 1) (pf l x (7 + 1)) ∧ Below w.heap.size w (w4.setCell ⟨w2.heap.size + 1, 7, none⟩ (.int .i64 y)) ∧ (w4.setCell ⟨w2.heap.size + 1, 7, none⟩ (.int .i64 y)).heap[w.heap.size]? = some (.cells #[.int .i64 0, .slice none 0 0] 49)) :=
            ⟨(HA1.below hb4 (by omega)).other (by omega) _, (HB2.set (by omega) y).congr HST.out, (below_after_of HA3 hb4).setCell (by show w.heap.size ≤ w2.heap.size + 1; omega) _, (heap_setCell_other w4 ⟨w2.heap.size + 1, 7, none⟩ w.heap.size _ (by show w.heap.size ≠ w2.heap.size + 1; omega)).trans ((hb4.block w.heap.size (by omega)).trans HA4)⟩
          clear hPS HI3 HA1 HA2 HA3 HA4 HB2 hb4 HST HP3 c0 c1 c2 c3 c4 c5 c6 c7 c8
          go_wp2
          go_roundw
          case rel => exact ⟨7 + 1, by omega, by go_num, by simp; omega, HI4⟩
          case measure => simp [intOf]
    · have hk8 : k = 8 := by omega
      subst hk8 hKK
      obtain ⟨HA1, HA2, HA3, HA4⟩ := HI.out
      obtain ⟨g0, g1, f0, f1⟩ := two_cellsV HA4
      have hki : ¬ ((8 : Nat) : Int) < 8 := by decide
      have hlen : (pth l x 8).length = 8 := pth_len l x 8
      have HO : Hid (wr.ownsRow (w.heap.size + 1) 102 1 (.slice (some ⟨w2.heap.size + 1, 0, none⟩) (pth l x 8).length 9) (pth l x 8).length ((pth l x 8).map (Value.int .i64))) := by
        rw [← pf_all, hlen]
        exact ⟨by simp [arrA], Or.inr ⟨w2.heap.size + 1, 9, arrA (pf l x 8), rfl, by omega, HA2, by omega, by decide, rfl, rfl⟩⟩
      have HL8 : Hid ((pth l x 8).length = 8) := hlen
      have HB3 : Hid (Below w.heap.size w wr) := HA3
      clear HA1 HA2 HA3 HA4 HI hlen
      go_wp2
      refine bodyPost_ret (v := .agg #[.int .i64 0, .slice (some ⟨w2.heap.size + 1, 0, none⟩) 8 9]) (by simp [results, Try.results25, go_sem, *]) rfl ⟨(HB3.out.setCell (Nat.le_refl _) _).setCell (Nat.le_refl _) _, _, 102, rfl, ?_⟩
      have HO2 := HO.out
      rw [HL8.out] at HO2 ⊢
      exact own_mono (ownsRow_setCell_below (ownsRow_setCell_below HO2 (by show w.heap.size < w.heap.size + 1; omega) _) (by show w.heap.size < w.heap.size + 1; omega) _) (Nat.le_succ _)
end U
end Go.Proofs.Ytdcfoggcepkelaa

/- OldPath, by the program and by the model: every way; numbers of whatever make, marked. -/
namespace Go.Proofs.Ytdcfoggcepkelaa
open Go.RowKit
namespace U
set_option maxRecDepth 100000 in
set_option maxHeartbeats 4000000 in
theorem implOldPath_any (v : Value) (l : Prl) (x : Int) (w : World) (hv : Prs w v l) (hok : Okv v) (hx : l.length ≤ 1099511627776) :
    Calls Try.prog 25 #[v, .int .i64 x] w fun e w' => NumsAns w (opC l x) (opL l x) e w' := by
  have hF := fun w' h => implSlotsFault_any v l w' (hv.below h) hx
  have hK := fun w' => isKey_any x w'
  unfold opC opL
  obtain ⟨ad, c, rfl⟩ := hv.shape
  by_cases h0 : slF l = 0
  · rw [if_pos h0]
    rw [h0] at hF
    rcases Bool.eq_false_or_eq_true (inB x 0 255) with hb | hb
    · rw [if_pos hb, if_pos ⟨h0, hb⟩]
      rw [hb] at hK
      exact implOldPath_ok ad l.length c l x w hv hok (slF_ok h0) (inB_bd hb) hF hK
    · rw [if_neg (by rw [hb]; simp), if_neg (fun h => by rw [hb] at h; cases h.2)]
      rw [hb] at hK
      generalize l.length = n at *
      clear hv hok h0 hb
      go_enter Try.func25, Try.ntmps25
      go_wp2_with fail
      refine (hF _ (one_new _)).mono ?_
      rintro e w1 ⟨rfl, hb1⟩
      clear hF
      go_wp2_with fail
      refine (hK _).mono ?_
      rintro e w1b ⟨rfl, rfl⟩
      obtain ⟨g0, g1, f0, f1⟩ := two_cellsV ((hb1.block w.heap.size (by simp)).trans (heap_alloc_new w _))
      have hB1 := below_after hb1
      clear hK hb1
      go_wp2
      exact bodyPost_ret (v := .agg #[.int .i64 3, .slice none 0 0]) (by simp [results, Try.results25, go_sem, *]) rfl ⟨(hB1.setCell (by simp) _).setCell (by simp) _, _, 2, rfl, World.ownsRow_nil _ _ _ _⟩
  · rw [if_neg h0, if_neg (fun h => h0 h.1)]
    generalize slF l = f at *
    generalize l.length = n at *
    have hfn : (f != 0) = true := by simpa using h0
    clear hv h0 hK hok
    go_enter Try.func25, Try.ntmps25
    go_wp2_with fail
    refine (hF _ (one_new _)).mono ?_
    rintro e w1 ⟨rfl, hb1⟩
    obtain ⟨g0, g1, f0, f1⟩ := two_cellsV ((hb1.block w.heap.size (by simp)).trans (heap_alloc_new w _))
    have hB1 := below_after hb1
    clear hF hb1
    go_wp2
    exact bodyPost_ret (v := .agg #[.int .i64 f, .slice none 0 0]) (by simp [results, Try.results25, go_sem, *]) rfl ⟨(hB1.setCell (by simp) _).setCell (by simp) _, _, 2, rfl, World.ownsRow_nil _ _ _ _⟩
set_option maxRecDepth 100000 in
set_option maxHeartbeats 4000000 in
theorem specOldPath_any (v : Value) (l : Prl) (x : Int) (w : World) (hv : Prs w v l) (hx : l.length ≤ 1048576) :
    Calls Try.prog 35 #[v, .int .i64 x] w fun e w' => NumsAns w (opC l x) (opL l x) e w' := by
  have hF := fun w' h => l4Fault_any v l w' (hv.below h) (by omega)
  have hK := fun w' => l4Key_any x w'
  unfold opC opL
  by_cases h0 : slF l = 0
  · rw [if_pos h0]
    rw [h0] at hF
    have hs := slF_ok h0
    rcases Bool.eq_false_or_eq_true (inB x 0 255) with hb | hb
    · rw [if_pos hb, if_pos ⟨h0, hb⟩]
      rw [hb] at hK
      have hP := fun w' h => l4Path_any v l x w' (hv.below h) hx hs.fin (inB_bd hb)
      obtain ⟨ad, c, rfl⟩ := hv.shape
      generalize pth l x 8 = m at *
      generalize l.length = n at *
      clear hv h0 hb hs
      go_enter Try.func35, Try.ntmps35
      go_wp2_with fail
      refine (hF _ (one_new _)).mono ?_
      rintro e w1 ⟨rfl, q1, rfl⟩
      clear hF
      go_wp2_with fail
      refine (hK _).mono ?_
      rintro e w1b ⟨rfl, rfl⟩
      clear hK
      go_wp2_with fail
      refine (hP _ (below_drewN (one_new _) _)).mono ?_
      rintro e w3 ⟨v3, rfl, ho3, hb3⟩
      obtain ⟨a3, c3, rfl⟩ := own_shape ho3
      have hb3' := below_after_of (below_drewN (one_new _) q1) hb3
      obtain ⟨g0, g1, f0, f1⟩ := two_cellsV ((hb3.block w.heap.size (by simp)).trans (heap_alloc_new w _))
      have HO : Hid (w3.ownsRow (w.heap.size + 1) 2 1 (.slice a3 m.length c3) m.length (m.map (Value.int .i64))) := own_mono ho3 (by simp)
      clear hP hb3 ho3
      go_wp2
      refine bodyPost_ret (v := .agg #[.int .i64 0, .slice a3 m.length c3]) (by simp [results, Try.results35, go_sem, *]) rfl ⟨(hb3'.setCell (by simp) _).setCell (by simp) _, _, 2, rfl, ?_⟩
      exact own_mono (ownsRow_setCell_below (ownsRow_setCell_below HO.out (by show w.heap.size < w.heap.size + 1; omega) _) (by show w.heap.size < w.heap.size + 1; omega) _) (by omega)
    · rw [if_neg (by rw [hb]; simp), if_neg (fun h => by rw [hb] at h; cases h.2)]
      rw [hb] at hK
      obtain ⟨ad, c, rfl⟩ := hv.shape
      generalize l.length = n at *
      clear hv h0 hb hs
      go_enter Try.func35, Try.ntmps35
      go_wp2_with fail
      refine (hF _ (one_new _)).mono ?_
      rintro e w1 ⟨rfl, q1, rfl⟩
      clear hF
      go_wp2_with fail
      refine (hK _).mono ?_
      rintro e w1b ⟨rfl, rfl⟩
      clear hK
      go_wp2
      exact bodyPost_ret (v := .agg #[.int .i64 3, .slice none 0 0]) (by simp [results, Try.results35, go_sem]) rfl ⟨by first | exact below_drewN (one_new _) _ | exact ((below_drewN (one_new _) _).setCell (by simp) _).setCell (by simp) _, _, 2, rfl, World.ownsRow_nil _ _ _ _⟩
  · rw [if_neg h0, if_neg (fun h => h0 h.1)]
    obtain ⟨ad, c, rfl⟩ := hv.shape
    generalize slF l = f at *
    generalize l.length = n at *
    have hfn : (f != 0) = true := by simpa using h0
    clear hv h0 hK
    go_enter Try.func35, Try.ntmps35
    go_wp2_with fail
    refine (hF _ (one_new _)).mono ?_
    rintro e w1 ⟨rfl, q1, rfl⟩
    clear hF
    go_wp2
    exact bodyPost_ret (v := .agg #[.int .i64 f, .slice none 0 0]) (by simp [results, Try.results35, go_sem]) rfl ⟨by first | exact below_drewN (one_new _) _ | exact ((below_drewN (one_new _) _).setCell (by simp) _).setCell (by simp) _, _, 2, rfl, World.ownsRow_nil _ _ _ _⟩
set_option maxRecDepth 100000 in
set_option maxHeartbeats 1000000 in
theorem markNums_any (B : Nat) (t : TypeId) (v : Value) (xs : List Int) (k0 : Nat) (w : World) (hown : w.ownsRow B t 1 v xs.length (xs.map (Value.int .i64))) (hx : xs.length ≤ 1099511627776) (hk0 : k0 ≤ 1099511627776) :
    Calls Try.prog 53 #[v, .int .i64 k0] w fun e w' => e = .returned (.int .i64 ((k0 + xs.length : Nat) : Int)) ∧ w.grownBy w' v.ownBlock ∧ w'.ownsRow B t 1 v xs.length ((marks k0 xs.length).map (Value.int .i64)) := by
  by_cases h0 : xs.length = 0
  · have e1 : xs = [] := List.eq_nil_of_length_eq_zero h0
    subst e1
    obtain ⟨a, c, rfl⟩ := own_shape hown
    simp only [List.length_nil] at *
    go_enter Try.func53, Try.ntmps53
    go_wp2
    refine wp_loop_rounds 1 ?_; rw [rounds_succ]
    go_wp2
    go_ret
    exact ⟨rfl, World.grownBy.refl _ _, hown⟩
  · rcases hown.2 with ⟨_, h⟩ | ⟨g, cap, cur, rfl, hB, hg, _⟩
    · exact absurd h h0
    have hgs : g < w.heap.size := (Array.getElem?_eq_some_iff.1 hg).1
    clear hg hB
    obtain ⟨n, hn⟩ : ∃ n, n = xs.length := ⟨_, rfl⟩
    have HN : Hid (n = xs.length) := hn
    rw [← hn] at hown hx h0 ⊢
    clear hn h0
    go_enter Try.func53, Try.ntmps53
    go_wp2
    go_loopw [1, 5] (fun k i wr => ∃ j : Nat, j ≤ n ∧ i = .int .i64 j ∧ k = .int .i64 ((k0 + j : Nat) : Int) ∧ w.grownBy wr (some g) ∧ wr.ownsRow B t 1 (.slice (some ⟨g, 0, none⟩) n cap) n ((half xs k0 j).map (Value.int .i64))) (fun _ i _ => n - (intOf i).toNat)
    case atStart => exact ⟨0, Nat.zero_le _, rfl, by simp, World.grownBy.refl _ _, by rw [half_zero]; exact hown⟩
    case round =>
      obtain ⟨j, hj, rfl, rfl, hgr, ho⟩ := hrel
      by_cases hjn : j < n
      · have hji : (j : Int) < (n : Int) := by omega
        have hfz := ho.frozenAt j
        obtain ⟨x, hcl⟩ := own_some ho hjn
        obtain ⟨s1, s2⟩ := ho.stored j (.int .i64 ((k0 + j : Nat) : Int))
        have s2 := grown_trans hgr s2
        rw [← List.map_set, half_set xs k0 j (by have := HN.out; omega)] at s1
        clear ho hown hgr
        go_wp2
        go_roundw
        case rel =>
          exact ⟨j + 1, by omega, by go_num, by go_num, s2, s1⟩
        case measure => simp [intOf]; omega
      · go_wp2
        go_ret
        have hjn : j = n := by omega
        subst hjn
        refine ⟨rfl, hgr, ?_⟩
        rw [HN.out, half_all, ← HN.out] at ho
        exact ho
end U
end Go.Proofs.Ytdcfoggcepkelaa
