/- What is cut out of slots, by the program; CutSlots. -/
import Derived.Test.YtgflamlfplpfdaaSl9
import Derived.Test.YtgflamlfplpfdaaSl4
import Derived.Test.YtgflamlfplpfdaaSlR
namespace Go.Proofs.Ytgflamlfplpfdaa
open Go.RowKit
namespace U
/-- The answer of a function that hands back a code and slots of its own. -/
def SlotsAns (w : World) (code : Int) (l : Prl) (e : Ending) (w' : World) : Prop :=
  Below w.heap.size w w' ∧ ∃ v, e = .returned (.agg #[.int .i64 code, v]) ∧ w'.ownsRow w.heap.size 26 2 v l.length ((fl l).map (Value.int .i64))
theorem SlotsAns.use {w w' : World} {code : Int} {l : Prl} {e : Ending} (h : SlotsAns w code l e w') : ∃ a c, e = .returned (.agg #[.int .i64 code, .slice a l.length c]) ∧ Below w.heap.size w w' ∧ w'.ownsRow w.heap.size 26 2 (.slice a l.length c) l.length ((fl l).map (Value.int .i64)) := by
  obtain ⟨hb, v, rfl, ho⟩ := h
  obtain ⟨a, c, rfl⟩ := own_shape2 ho
  exact ⟨a, c, rfl, hb, ho⟩
/-- A slice value as it may be: no more in it than it has room for; without an address there is no room. -/
def Okv (v : Value) : Prop := ∀ a n c, v = .slice a n c → n ≤ c ∧ (a = none → c = 0)
theorem own_okv {w : World} {B : Nat} {e : TypeId} {v : Value} {m : Nat} {xs : List Value} (h : w.ownsRow B e 2 v m xs) : Okv v := by
  intro a n c hv
  subst hv
  rcases h.2 with ⟨h1, _⟩ | ⟨g, cap, cur, h1, _, _, hc, _⟩
  · cases h1; exact ⟨by omega, fun _ => rfl⟩
  · cases h1; exact ⟨hc, fun h => by cases h⟩
/-- Slots between two keys: it shares memory with the list. -/
theorem prs_part {w : World} {b off n c i j : Nat} {l : Prl} (hn : n = l.length) (hb : b < w.heap.size) (hij : i ≤ j) (hj : j ≤ n)
    (hc : ∀ j, j < n → w.cell? ⟨b, off + j * 2, none⟩ = some (.int .i64 (pAt l j).1) ∧ w.cell? ⟨b, off + j * 2 + 1, none⟩ = some (.int .i64 (pAt l j).2)) :
    Prs w (.slice (some ⟨b, off + i * 2, none⟩) (j - i) c) ((l.take j).drop i) := by
  right
  have hl : ((l.take j).drop i).length = j - i := by rw [List.length_drop, List.length_take]; omega
  refine ⟨b, off + i * 2, c, by rw [hl], hb, fun k hk => ?_⟩
  rw [hl] at hk
  have h1 := hc (i + k) (by omega)
  have e : pAt ((l.take j).drop i) k = pAt l (i + k) := by
    unfold pAt
    rw [List.getD_eq_getElem?_getD, List.getD_eq_getElem?_getD, List.getElem?_drop, List.getElem?_take, if_pos (by omega)]
  rw [e, show off + i * 2 + k * 2 = off + (i + k) * 2 by omega]
  exact h1
set_option maxRecDepth 100000 in
set_option maxHeartbeats 2000000 in
theorem slotsBetween_any (v : Value) (l : Prl) (a b : Int) (w : World) (hv : Prs w v l) (hcap : Okv v) (hl : l.length ≤ 12) (hr : Ris l) (hab : a ≤ b) :
    Calls Try.prog 64 #[v, .int .i64 a, .int .i64 b] w fun e w' => (∃ ad c, e = .returned (.slice ad (cut l a b).length c) ∧ Prs w (.slice ad (cut l a b).length c) (cut l a b) ∧ Okv (.slice ad (cut l a b).length c)) ∧ Below w.heap.size w w' := by
  have hP1 := fun w' h => placeOf_any v l a w' (hv.below h) hl hr
  have hP2 := fun w' h => placeOf_any v l b w' (hv.below h) hl hr
  have hm := low_mono l hab
  have hle := low_le l b
  have hce := cut_eq hr a b
  have hlen : (cut l a b).length = low l b - low l a := by rw [hce, List.length_drop, List.length_take]; omega
  obtain ⟨ad, c, rfl⟩ := hv.shape
  have hcp := (hcap _ _ _ rfl).1
  have HNC : Hid (ad = none → c = 0) := (hcap _ _ _ rfl).2
  have HV : Hid (Prs w (.slice ad l.length c) l) := hv
  have HPT : Hid (∀ bk off cc, ad = some ⟨bk, off, none⟩ → 0 < l.length → Prs w (.slice (some ⟨bk, off + low l a * 2, none⟩) (low l b - low l a) cc) (cut l a b)) := fun bk off cc e h0 => by
    subst e
    obtain ⟨_, b', off', e', hb', hc'⟩ := hv.at h0
    cases e'
    rw [hce]
    exact prs_part rfl hb' hm hle hc'
  have HL : Hid ((cut l a b).length = low l b - low l a) := hlen
  have HN : Hid (low l b - low l a = 0 → cut l a b = []) := fun h => List.eq_nil_of_length_eq_zero (by rw [hlen]; exact h)
  have hadr : 0 < l.length → ∃ bk off, ad = some ⟨bk, off, none⟩ := fun h0 => by
    obtain ⟨_, b', off', e', _⟩ := hv.at h0
    exact ⟨b', off', e'⟩
  rw [hlen]
  generalize cut l a b = m at *
  generalize low l b = j at *
  generalize low l a = i at *
  generalize thr l a = t1 at *
  generalize thr l b = t2 at *
  generalize l.length = n at *
  clear hv hr hcap hce hlen hab
  have hij : (i : Int) ≤ (j : Int) := by omega
  have hjc : (j : Int) ≤ (c : Int) := by omega
  have hjn : (j : Int) ≤ (n : Int) := by omega
  by_cases h0 : 0 < n
  · obtain ⟨bk, off, rfl⟩ := hadr h0
    clear hadr
    by_cases hci : c = i
    · have hji : j - i = 0 := by omega
      have HM : Hid (m = []) := HN.out hji
      have hij2 : j = i := by omega
      subst hij2 hci
      go_enter Try.func64, Try.ntmps64
      go_wp2_with fail
      refine (hP1 _ (Below.refl _ _)).mono ?_
      rintro e w1 ⟨rfl, hb1⟩
      clear hP1
      go_wp2_with fail
      refine (hP2 _ hb1).mono ?_
      rintro e w2 ⟨rfl, hb2⟩
      have hB2 := below_after_of hb1 hb2
      clear hP2 hb1 hb2
      go_wp2
      go_ret
      exact ⟨⟨_, _, by rw [Nat.sub_self]; rfl, Or.inl ⟨HM.out, _, _, by rw [Nat.sub_self]⟩, fun _ _ _ h => by cases h; exact ⟨by omega, fun h => by cases h⟩⟩, hB2⟩
    · have HPX := HPT.out bk off (c - i) rfl h0
      have HPX : Hid (Prs w (.slice (some ⟨bk, off + i * 2, none⟩) (j - i) (c - i)) m) := HPX
      clear HPT
      go_enter Try.func64, Try.ntmps64
      go_wp2_with fail
      refine (hP1 _ (Below.refl _ _)).mono ?_
      rintro e w1 ⟨rfl, hb1⟩
      clear hP1
      go_wp2_with fail
      refine (hP2 _ hb1).mono ?_
      rintro e w2 ⟨rfl, hb2⟩
      have hB2 := below_after_of hb1 hb2
      clear hP2 hb1 hb2
      go_wp2
      go_ret
      exact ⟨⟨_, _, rfl, HPX.out, fun _ _ _ h => by cases h; exact ⟨by omega, fun h => by cases h⟩⟩, hB2⟩
  · have hj0 : j = 0 := by omega
    have hi0 : i = 0 := by omega
    have hn0 : n = 0 := by omega
    subst hj0 hi0 hn0
    have HM : Hid (m = []) := HN.out rfl
    clear hadr HPT HN HV
    rcases ad with _ | ad
    · have hc0 := HNC.out rfl
      subst hc0
      clear HNC
      go_enter Try.func64, Try.ntmps64
      go_wp2_with fail
      refine (hP1 _ (Below.refl _ _)).mono ?_
      rintro e w1 ⟨rfl, hb1⟩
      clear hP1
      go_wp2_with fail
      refine (hP2 _ hb1).mono ?_
      rintro e w2 ⟨rfl, hb2⟩
      have hB2 := below_after_of hb1 hb2
      clear hP2 hb1 hb2
      go_wp2
      go_ret
      exact ⟨⟨_, _, rfl, Or.inl ⟨HM.out, _, _, rfl⟩, fun _ _ _ h => by cases h; exact ⟨by omega, fun _ => rfl⟩⟩, hB2⟩
    · go_enter Try.func64, Try.ntmps64
      go_wp2_with fail
      refine (hP1 _ (Below.refl _ _)).mono ?_
      rintro e w1 ⟨rfl, hb1⟩
      clear hP1
      go_wp2_with fail
      refine (hP2 _ hb1).mono ?_
      rintro e w2 ⟨rfl, hb2⟩
      have hB2 := below_after_of hb1 hb2
      clear hP2 hb1 hb2
      go_wp2
      go_ret
      exact ⟨⟨_, _, rfl, Or.inl ⟨HM.out, _, _, rfl⟩, fun _ _ _ h => by cases h; exact ⟨by omega, fun h => by cases h⟩⟩, hB2⟩
/-- The code and the slots that are cut out. -/
def cutB (a b : Int) : Bool := inB a 0 256 && inB b a 256
def csC (l : Prl) (a b : Int) : Int := if slF l = 0 then (if cutB a b = true then 0 else 3) else slF l
def csL (l : Prl) (a b : Int) : Prl := if slF l = 0 ∧ cutB a b = true then cut l a b else []
theorem csL_len (l : Prl) (a b : Int) : (csL l a b).length ≤ l.length := by
  unfold csL
  split
  · exact cut_len _ _ _
  · simp
theorem pair_cells {w : World} {g : Nat} {x y : Value} {t : TypeId} : w.heap[g]? = some (.cells #[x, y] t) → w.cell? ⟨g, 0, none⟩ = some x ∧ w.cell? ⟨g, 1, none⟩ = some y ∧ w.frozen? ⟨g, 0, none⟩ = false ∧ w.frozen? ⟨g, 1, none⟩ = false := two_cellsV
theorem prs_news {w : World} {ad : Addr} {m c : Nat} {l : Prl} (h : Prs w (.slice (some ad) m c) l) : ∀ j u, ((fl l).map (Value.int .i64))[j]? = some u → w.cell? (ad.add j) = some u := by
  intro j u hu
  have hj : j < l.length * 2 := by
    have := (List.getElem?_eq_some_iff.1 hu).1
    rwa [List.length_map, fl_len] at this
  obtain ⟨_, b, off, e, hb, hc⟩ := h.at (by omega)
  cases e
  have h1 := hc (j / 2) (by omega)
  have h2 := fl_at l (j / 2) (by omega)
  rw [List.getElem?_map] at hu
  rw [Go.WideShapes.add_plain]
  rcases (by omega : j = j / 2 * 2 ∨ j = j / 2 * 2 + 1) with e | e
  · rw [e, h2.1] at hu
    rw [show off + j = off + j / 2 * 2 by omega, h1.1]
    exact hu
  · rw [e, h2.2] at hu
    rw [show off + j = off + j / 2 * 2 + 1 by omega, h1.2]
    exact hu
set_option maxRecDepth 100000 in
set_option maxHeartbeats 2000000 in
theorem implCutSlots_any (v : Value) (l : Prl) (a b : Int) (w : World) (hv : Prs w v l) (hcap : Okv v) (hx : l.length ≤ 1099511627776) :
    Calls Try.prog 15 #[v, .int .i64 a, .int .i64 b] w fun e w' => SlotsAns w (csC l a b) (csL l a b) e w' := by
  have hF := fun w' h => implSlotsFault_any v l w' (hv.below h) hx
  unfold csC csL
  by_cases h0 : slF l = 0
  · have hs := slF_ok h0
    rw [if_pos h0]
    rw [h0] at hF
    by_cases hc : cutB a b = true
    · rw [if_pos hc, if_pos ⟨h0, hc⟩]
      have hcb := hc
      unfold cutB at hcb
      rw [Bool.and_eq_true] at hcb
      have ha := inB_bd hcb.1
      have hb := inB_bd hcb.2
      have hP := fun w' h => slotsBetween_any v l a b w' (hv.below h) hcap hs.len hs.ris hb.1
      have hcl := cut_len l a b
      have hln := hs.len
      have hlm : (cut l a b).length ≤ 12 := by omega
      obtain ⟨i0, hi, hz0, hz1, hz2⟩ := info_parts Try.infoSl
      obtain ⟨ad, c, rfl⟩ := hv.shape
      have i1 : ¬ a < 0 := by omega
      have i2 : ¬ 256 < a := by omega
      have i3 : ¬ b < a := by omega
      have i4 : ¬ 256 < b := by omega
      generalize cut l a b = m at *
      generalize l.length = n at *
      clear hv h0 hs hc hcb hcap
      go_enter Try.func15, Try.ntmps15
      go_wp2_with fail
      refine (hF _ (one_new _)).mono ?_
      rintro e w1 ⟨rfl, hb1⟩
      clear hF
      go_wp2_with fail
      refine (hP _ (below_after hb1)).mono ?_
      rintro e w2 ⟨⟨ad2, c2, rfl, hp2, hc2⟩, hb2⟩
      have hp2 := hp2.below hb2
      have hb2' := below_after_of hb1 hb2
      have hB2 := below_after hb2'
      obtain ⟨g0, g1, f0, f1⟩ := two_cellsV ((hb2'.block w.heap.size (by simp)).trans (heap_alloc_new w _))
      have hz2 : w.heap.size < w2.heap.size := by have := hb2'.size; simp at this; omega
      have hok := hc2 _ _ _ rfl
      clear hP hb1 hb2 hc2
      rcases ad2 with _ | ad2
      · have hc0 : c2 = 0 := hok.2 rfl
        subst hc0
        have hm0 : m.length = 0 := by have := hok.1; omega
        rw [hm0]
        have HM : Hid (m = []) := List.eq_nil_of_length_eq_zero hm0
        clear hok hp2 hm0 hb2'
        go_wp2_with (at_builtin; refine wpList_append_own_none rfl _ _ 24 rfl w2.heap.size 26 i0 2 Try.underlying24 hi (.slice none 0 0) 0 [] rfl (World.ownsRow_nil _ _ _ _) rfl ?_)
        go_wp2
        refine bodyPost_ret (v := .agg #[.int .i64 0, .slice none 0 0]) (by simp [results, Try.results15, go_sem, *]) rfl ⟨(hB2.setCell (by simp) _).setCell (by simp) _, _, rfl, ?_⟩
        rw [HM.out]
        exact World.ownsRow_nil _ _ _ _
      · have hnw := prs_news hp2
        go_wp2_with (at_builtin; refine wpList_append_own _ rfl _ _ 24 rfl w2.heap.size 26 i0 (.agg #[.int .i64 0, .int .i64 0]) 2 16 Try.underlying24 hi hz0 hz1 (by assumption) rfl (by decide) (.slice none 0 0) 0 [] rfl (World.ownsRow_nil _ _ _ _) ad2 m.length c2 ((fl m).map (Value.int .i64)) rfl (by rw [List.length_map, fl_len]) hnw (ints_oneCell .i64 (fl m)) (by unfold maxLen; omega) (by omega) (Nat.le_refl _) ?_)
        intro v3 w3 hown hgrow _
        have hown : w3.ownsRow w2.heap.size 26 2 v3 m.length ((fl m).map (Value.int .i64)) := by simpa using hown
        obtain ⟨a3, c3, rfl⟩ := own_shape2 hown
        have hb3 : Below w2.heap.size w2 w3 := (Below.refl _ _).grown hgrow (Nat.le_refl _) (fun k hk => by cases hk)
        have hB3 := below_after_of hB2 hb3
        obtain ⟨g0, g1, f0, f1⟩ := two_cellsV (((hb3.block w.heap.size (by omega)).trans (hb2'.block w.heap.size (by simp))).trans (heap_alloc_new w _))
        have HO : Hid (w3.ownsRow w2.heap.size 26 2 (.slice a3 m.length c3) m.length ((fl m).map (Value.int .i64))) := hown
        clear hgrow hown hb3 hb2' hp2 hnw hok
        go_wp2
        refine bodyPost_ret (v := .agg #[.int .i64 0, .slice a3 m.length c3]) (by simp [results, Try.results15, go_sem, *]) rfl ⟨(hB3.setCell (by simp) _).setCell (by simp) _, _, rfl, ?_⟩
        exact own_mono (ownsRow_setCell_below (ownsRow_setCell_below HO.out (by simpa using hz2) _) (by simpa using hz2) _) (Nat.le_of_lt hz2)
    · rw [if_neg hc, if_neg (fun h => hc h.2)]
      obtain ⟨ad, c, rfl⟩ := hv.shape
      have hcb : a < 0 ∨ 256 < a ∨ b < a ∨ 256 < b := by
        have h1 : cutB a b = false := by simpa using hc
        unfold cutB at h1
        rw [Bool.and_eq_false_iff] at h1
        rcases h1 with h1 | h1
        · rcases inB_nb h1 with h | h
          · exact Or.inl h
          · exact Or.inr (Or.inl h)
        · rcases inB_nb h1 with h | h
          · exact Or.inr (Or.inr (Or.inl h))
          · exact Or.inr (Or.inr (Or.inr h))
      have hg : decide (a < 0) = true ∨ decide (a < 0) = false ∧ (decide (256 < a) = true ∨ decide (256 < a) = false ∧ (decide (b < a) = true ∨ decide (b < a) = false ∧ decide (256 < b) = true)) := by
        simp only [decide_eq_true_eq, decide_eq_false_iff_not]
        omega
      generalize l.length = n at *
      clear hv h0 hs hc hcap hcb
      go_enter Try.func15, Try.ntmps15
      go_wp2_with fail
      refine (hF _ (one_new _)).mono ?_
      rintro e w1 ⟨rfl, hb1⟩
      have hB1 := below_after hb1
      obtain ⟨g0, g1, f0, f1⟩ := two_cellsV ((hb1.block w.heap.size (by simp)).trans (heap_alloc_new w _))
      clear hF hb1
      rcases hg with hg | ⟨hg, hg2 | ⟨hg2, hg3 | ⟨hg3, hg4⟩⟩⟩
      all_goals (
        try have i1 := of_decide_eq_true hg
        try have i1 := of_decide_eq_false hg
        try have i2 := of_decide_eq_true hg2
        try have i2 := of_decide_eq_false hg2
        try have i3 := of_decide_eq_true hg3
        try have i3 := of_decide_eq_false hg3
        try have i4 := of_decide_eq_true hg4
        go_wp2
        exact bodyPost_ret (v := .agg #[.int .i64 3, .slice none 0 0]) (by simp [results, Try.results15, go_sem, *]) rfl ⟨(hB1.setCell (by simp) _).setCell (by simp) _, _, rfl, World.ownsRow_nil _ _ _ _⟩)
  · rw [if_neg h0, if_neg (fun h => h0 h.1)]
    obtain ⟨ad, c, rfl⟩ := hv.shape
    generalize slF l = f at *
    generalize l.length = n at *
    have hfn : (f != 0) = true := by simpa using h0
    clear hv h0 hcap
    go_enter Try.func15, Try.ntmps15
    go_wp2_with fail
    refine (hF _ (one_new _)).mono ?_
    rintro e w1 ⟨rfl, hb1⟩
    obtain ⟨g0, g1, f0, f1⟩ := two_cellsV ((hb1.block w.heap.size (by simp)).trans (heap_alloc_new w _))
    have hB1 := below_after hb1
    clear hF hb1
    go_wp2
    exact bodyPost_ret (v := .agg #[.int .i64 f, .slice none 0 0]) (by simp [results, Try.results15, go_sem, *]) rfl ⟨(hB1.setCell (by simp) _).setCell (by simp) _, _, rfl, World.ownsRow_nil _ _ _ _⟩
set_option maxRecDepth 100000 in
set_option maxHeartbeats 2000000 in
theorem specCutSlots_any (v : Value) (l : Prl) (a b : Int) (w : World) (hv : Prs w v l) (hx : l.length ≤ 1048576) :
    Calls Try.prog 16 #[v, .int .i64 a, .int .i64 b] w fun e w' => SlotsAns w (csC l a b) (csL l a b) e w' := by
  have hF := fun w' h => l4Fault_any v l w' (hv.below h) (by omega)
  have hI1 := fun w => l1In_any a 0 256 w
  have hI2 := fun w => l1In_any b a 256 w
  unfold csC csL
  by_cases h0 : slF l = 0
  · rw [if_pos h0]
    rw [h0] at hF
    have hP := fun w' h => l4Cut_any v l a b w' (hv.below h) hx
    have hcl := cut_len l a b
    obtain ⟨ad, c, rfl⟩ := hv.shape
    have hcb : cutB a b = (inB a 0 256 && inB b a 256) := rfl
    generalize cut l a b = m at *
    generalize inB a 0 256 = b1 at *
    generalize inB b a 256 = b2 at *
    generalize cutB a b = bb at *
    generalize l.length = n at *
    subst hcb
    cases b1
    · rw [if_neg (by simp), if_neg (fun h => by simp at h)]
      clear hv h0 hP
      go_enter Try.func16, Try.ntmps16
      go_wp2_with fail
      refine (hF _ (one_new _)).mono ?_
      rintro e w1 ⟨rfl, q1, rfl⟩
      clear hF
      go_wp2_with fail
      refine (hI1 _).mono ?_
      rintro e w1 ⟨rfl, rfl⟩
      clear hI1 hI2
      go_wp2
      exact bodyPost_ret (v := .agg #[.int .i64 3, .slice none 0 0]) (by simp [results, Try.results16, go_sem]) rfl ⟨by first | exact below_drewN (one_new _) _ | exact ((below_drewN (one_new _) _).setCell (by simp) _).setCell (by simp) _, _, rfl, World.ownsRow_nil _ _ _ _⟩
    · cases b2
      · rw [if_neg (by simp), if_neg (fun h => by simp at h)]
        clear hv h0 hP
        go_enter Try.func16, Try.ntmps16
        go_wp2_with fail
        refine (hF _ (one_new _)).mono ?_
        rintro e w1 ⟨rfl, q1, rfl⟩
        clear hF
        go_wp2_with fail
        refine (hI1 _).mono ?_
        rintro e w1 ⟨rfl, rfl⟩
        go_wp2_with fail
        refine (hI2 _).mono ?_
        rintro e w1 ⟨rfl, rfl⟩
        clear hI1 hI2
        go_wp2
        exact bodyPost_ret (v := .agg #[.int .i64 3, .slice none 0 0]) (by simp [results, Try.results16, go_sem]) rfl ⟨by first | exact below_drewN (one_new _) _ | exact ((below_drewN (one_new _) _).setCell (by simp) _).setCell (by simp) _, _, rfl, World.ownsRow_nil _ _ _ _⟩
      · rw [if_pos (by simp), if_pos ⟨h0, by simp⟩]
        clear hv h0
        go_enter Try.func16, Try.ntmps16
        go_wp2_with fail
        refine (hF _ (one_new _)).mono ?_
        rintro e w1 ⟨rfl, q1, rfl⟩
        clear hF
        go_wp2_with fail
        refine (hI1 _).mono ?_
        rintro e w1 ⟨rfl, rfl⟩
        go_wp2_with fail
        refine (hI2 _).mono ?_
        rintro e w1 ⟨rfl, rfl⟩
        clear hI1 hI2
        go_wp2_with fail
        refine (hP _ (below_drewN (one_new _) _)).mono ?_
        rintro e w3 ⟨a3, c3, rfl, ho3, hb3⟩
        have hb3' := below_after_of (below_drewN (one_new _) q1) hb3
        obtain ⟨g0, g1, f0, f1⟩ := two_cellsV ((hb3.block w.heap.size (by simp)).trans (heap_alloc_new w _))
        have HO : Hid (w3.ownsRow (w.heap.size + 1) 26 2 (.slice a3 m.length c3) m.length ((fl m).map (Value.int .i64))) := by
          have h := ho3
          simp at h
          exact h
        clear hP hb3 ho3
        go_wp2
        refine bodyPost_ret (v := .agg #[.int .i64 0, .slice a3 m.length c3]) (by simp [results, Try.results16, go_sem, *]) rfl ⟨(hb3'.setCell (by simp) _).setCell (by simp) _, _, rfl, ?_⟩
        exact own_mono (ownsRow_setCell_below (ownsRow_setCell_below HO.out (by simp) _) (by simp) _) (by omega)
  · rw [if_neg h0, if_neg (fun h => h0 h.1)]
    obtain ⟨ad, c, rfl⟩ := hv.shape
    generalize slF l = f at *
    generalize l.length = n at *
    have hfn : (f != 0) = true := by simpa using h0
    clear hv h0
    go_enter Try.func16, Try.ntmps16
    go_wp2_with fail
    refine (hF _ (one_new _)).mono ?_
    rintro e w1 ⟨rfl, q1, rfl⟩
    clear hF
    go_wp2
    exact bodyPost_ret (v := .agg #[.int .i64 f, .slice none 0 0]) (by simp [results, Try.results16, go_sem]) rfl ⟨by first | exact below_drewN (one_new _) _ | exact ((below_drewN (one_new _) _).setCell (by simp) _).setCell (by simp) _, _, rfl, World.ownsRow_nil _ _ _ _⟩
end U
end Go.Proofs.Ytgflamlfplpfdaa
