/- PutSlot, by the program. -/
import Derived.Test.YtgflamlfplpfdaaSl15
import Derived.Deep.RegionHeld3
namespace Go.Proofs.Ytgflamlfplpfdaa
open Go.RowKit
namespace U
theorem prs_take {w : World} {ad : Option Addr} {n c i : Nat} {l : Prl} (h : Prs w (.slice ad n c) l) (hn : n = l.length) (hi : i ≤ n) : Prs w (.slice ad i c) (l.take i) := by
  by_cases h0 : i = 0
  · subst h0
    exact Or.inl ⟨by simp, _, _, rfl⟩
  · obtain ⟨_, b, off, rfl, hb, hc⟩ := h.at (by omega)
    subst hn
    have := prs_part (i := 0) (j := i) (c := c) rfl hb (Nat.zero_le _) hi hc
    simpa using this
theorem prs_drop {w : World} {b off n c i c' : Nat} {l : Prl} (h : Prs w (.slice (some ⟨b, off, none⟩) n c) l) (hn : n = l.length) (hi : i ≤ n) : Prs w (.slice (some ⟨b, off + i * 2, none⟩) (n - i) c') (l.drop i) := by
  by_cases h0 : n = 0
  · subst h0
    refine Or.inl ⟨?_, some ⟨b, off + i * 2, none⟩, c', by simp⟩
    rw [List.eq_nil_of_length_eq_zero hn.symm]
    simp
  · obtain ⟨_, b', off', e, hb, hc⟩ := h.at (by omega)
    cases e
    subst hn
    have := prs_part (i := i) (j := l.length) (c := c') rfl hb hi (Nat.le_refl _) hc
    simpa using this
theorem okv_some {ad : Addr} {n c : Nat} (h : n ≤ c) : Okv (.slice (some ad) n c) := fun _ _ _ e => by cases e; exact ⟨h, fun h => by cases h⟩
theorem okv_take {ad : Option Addr} {n c i : Nat} (h : Okv (.slice ad n c)) (hi : i ≤ n) : Okv (.slice ad i c) := fun _ _ _ e => by
  cases e
  have := h _ _ _ rfl
  exact ⟨by omega, this.2⟩
/-- Slots, one slot and slots, joined behind two literals. -/
theorem concat_put (w2 : World) (u0 u2 : Value) (l0 l2 : Prl) (sk sv : Int) (hp0 : Prs w2 u0 l0) (hp2 : Prs w2 u2 l2) (ok0 : Okv u0) (ok2 : Okv u2) (h0 : l0.length ≤ 100) (h2 : l2.length ≤ 100) :
    Calls Try.prog 63 #[.slice (some ⟨w2.heap.size + 1, 0, none⟩) 3 3] ((w2.alloc (.cells #[.int .i64 sk, .int .i64 sv] 26)).alloc (.cells #[u0, .slice (some ⟨w2.heap.size, 0, none⟩) 1 1, u2] 24)).drew fun e w' => ∃ v', e = .returned v' ∧ w'.ownsRow w2.heap.size 26 2 v' (l0 ++ [(sk, sv)] ++ l2).length ((fl (l0 ++ [(sk, sv)] ++ l2)).map (Value.int .i64)) ∧ Below w2.heap.size w2 w' := by
  have hB : Below w2.heap.size w2 ((w2.alloc (.cells #[.int .i64 sk, .int .i64 sv] 26)).alloc (.cells #[u0, .slice (some ⟨w2.heap.size, 0, none⟩) 1 1, u2] 24)).drew := (two_new _ _).drew
  have e1 : ((w2.alloc (.cells #[.int .i64 sk, .int .i64 sv] 26)).alloc (.cells #[u0, .slice (some ⟨w2.heap.size, 0, none⟩) 1 1, u2] 24)).drew.heap[w2.heap.size]? = some (.cells #[.int .i64 sk, .int .i64 sv] 26) := (Below.heap_alloc (w2.alloc _) _ _ (by simp)).trans (heap_alloc_new w2 _)
  have e2 : ((w2.alloc (.cells #[.int .i64 sk, .int .i64 sv] 26)).alloc (.cells #[u0, .slice (some ⟨w2.heap.size, 0, none⟩) 1 1, u2] 24)).drew.heap[w2.heap.size + 1]? = some (.cells #[u0, .slice (some ⟨w2.heap.size, 0, none⟩) 1 1, u2] 24) := by
    have := heap_alloc_new (w2.alloc (.cells #[.int .i64 sk, .int .i64 sv] 26)) (.cells #[u0, .slice (some ⟨w2.heap.size, 0, none⟩) 1 1, u2] 24)
    rw [World.size_alloc] at this
    exact this
  have hs : ((w2.alloc (.cells #[.int .i64 sk, .int .i64 sv] 26)).alloc (.cells #[u0, .slice (some ⟨w2.heap.size, 0, none⟩) 1 1, u2] 24)).drew.heap.size = w2.heap.size + 2 := by simp
  generalize ((w2.alloc (.cells #[.int .i64 sk, .int .i64 sv] 26)).alloc (.cells #[u0, .slice (some ⟨w2.heap.size, 0, none⟩) 1 1, u2] 24)).drew = W at *
  have c0 : W.cell? ⟨w2.heap.size + 1, 0, none⟩ = some u0 := by unfold World.cell?; rw [e2]; rfl
  have c1 : W.cell? ⟨w2.heap.size + 1, 1, none⟩ = some (.slice (some ⟨w2.heap.size, 0, none⟩) 1 1) := by unfold World.cell?; rw [e2]; rfl
  have c2 : W.cell? ⟨w2.heap.size + 1, 2, none⟩ = some u2 := by unfold World.cell?; rw [e2]; rfl
  have hp1 : Prs W (.slice (some ⟨w2.heap.size, 0, none⟩) 1 1) [(sk, sv)] := by
    refine Or.inr ⟨w2.heap.size, 0, 1, rfl, by omega, fun j hj => ?_⟩
    have hj0 : j = 0 := by simp at hj; exact hj
    subst hj0
    have h3 := two_cellsV e1
    exact ⟨h3.1, h3.2.1⟩
  refine (concat_any (w2.heap.size + 1) u0 _ u2 l0 [(sk, sv)] l2 W (by omega) c0 c1 c2 (hp0.below hB) hp1 (hp2.below hB) ok0 (okv_some (Nat.le_refl _)) ok2 (by simp) h0 (by simp) h2).mono ?_
  rintro e w' ⟨v', rfl, ho, hb⟩
  exact ⟨v', rfl, own_mono ho (by omega), below_after_of hB hb⟩
set_option maxRecDepth 100000 in
set_option maxHeartbeats 8000000 in
theorem implPutSlot_ok (ad : Option Addr) (n c i : Nat) (th : Bool) (l m : Prl) (sk sv : Int) (w : World) (hv : Prs w (.slice ad n c) l) (hok : Okv (.slice ad n c)) (HN : Hid (n = l.length)) (hn : n ≤ 12) (hin : i ≤ n) (hth : th = true → i < n)
    (hF : ∀ w', Below w.heap.size w w' → Calls Try.prog 19 #[.slice ad n c] w' fun e w'' => e = .returned (.int .i64 0) ∧ Below w'.heap.size w' w'')
    (hS : ∀ w', Calls Try.prog 61 #[.agg #[.int .i64 sk, .int .i64 sv]] w' fun e w'' => e = .returned (.bool true) ∧ Below w'.heap.size w' w'')
    (hP : ∀ w', Below w.heap.size w w' → Calls Try.prog 62 #[.slice ad n c, .int .i64 sk] w' fun e w'' => e = .returned (.tuple #[.int .i64 (i : Nat), .bool th]) ∧ Below w'.heap.size w' w'')
    (HM : Hid (m = l.take i ++ [(sk, sv)] ++ l.drop (if th = true then i + 1 else i))) (hfull : th = true ∨ n < 12) :
    Calls Try.prog 13 #[.slice ad n c, .agg #[.int .i64 sk, .int .i64 sv]] w fun e w' => SlotsAns w 0 m e w' := by
  have hin2 : (i : Int) ≤ (n : Int) := by omega
  have hnc : n ≤ c := (hok _ _ _ rfl).1
  have hic : (i : Int) ≤ (c : Int) := by omega
  have hnc2 : (n : Int) ≤ (c : Int) := by omega
  have hl0 : (l.take i).length ≤ 100 := by rw [List.length_take]; have := HN.out; omega
  have hl2 : ∀ k, (l.drop k).length ≤ 100 := fun k => by rw [List.length_drop]; have := HN.out; omega
  have HV : Hid (∀ w', Below w.heap.size w w' → Prs w' (.slice ad n c) l) := fun w' h => hv.below h
  have HT : Hid (∀ w', Below w.heap.size w w' → Prs w' (.slice ad i c) (l.take i)) := fun w' h => prs_take (hv.below h) HN.out hin
  have OK0 : Hid (Okv (.slice ad i c)) := okv_take hok hin
  by_cases h0 : 0 < n
  · obtain ⟨-, bk, off, rfl, hbk, -⟩ := hv.at (by have := HN.out; omega)
    by_cases hci : c = i
    · have hthf : th = false := by
        rcases Bool.eq_false_or_eq_true th with h | h
        · have := hth h; omega
        · exact h
      subst hthf
      have h12 : ¬ (n : Int) = 12 := by rcases hfull with h | h; · cases h
                                        · omega
      have hni : n = i := by omega
      rw [if_neg (by simp)] at HM
      have HE : Hid (l.drop i = []) := by show _ = _; exact List.drop_eq_nil_of_le (by have := HN.out; omega)
      clear hth hfull hv
      subst hci
      subst hni
      go_enter Try.func13, Try.ntmps13
      go_wp2_with fail
      refine (hF _ (two_new _ _)).mono ?_
      rintro e w1 ⟨rfl, hb1⟩
      obtain ⟨hB1, s0, s1, -, -⟩ := box_cells hb1
      clear hF hB1
      have HB1 : Hid (Below ((w.alloc (.cells #[.int .i64 sk, .int .i64 sv] 26)).alloc (.cells #[.int .i64 0, .slice none 0 0] 30)).heap.size ((w.alloc (.cells #[.int .i64 sk, .int .i64 sv] 26)).alloc (.cells #[.int .i64 0, .slice none 0 0] 30)) w1) := hb1
      clear hb1
      go_wp2_with fail
      refine (hS _).mono ?_
      rintro e w1b ⟨rfl, hbx⟩
      have hb1 := below_after_of HB1.out hbx
      obtain ⟨hB1, s0, s1, -, -⟩ := box_cells hb1
      have HB1b : Hid (Below ((w.alloc (.cells #[.int .i64 sk, .int .i64 sv] 26)).alloc (.cells #[.int .i64 0, .slice none 0 0] 30)).heap.size ((w.alloc (.cells #[.int .i64 sk, .int .i64 sv] 26)).alloc (.cells #[.int .i64 0, .slice none 0 0] 30)) w1b) := hb1
      have HB1c : Hid (Below w.heap.size w w1b) := hB1
      clear hS hbx hb1 hB1 HB1
      go_wp2_with fail
      refine (hP _ HB1c.out).mono ?_
      rintro e w2 ⟨rfl, hbx⟩
      have hb2 := below_after_of HB1b.out hbx
      obtain ⟨hB2, s0, s1, hr2, hz2⟩ := box_cells hb2
      obtain ⟨g0, g1, f0, f1⟩ := two_cellsV hr2
      clear hP hbx HB1b HB1c
      have hu0 := HT.out _ hB2
      have ok0 := OK0.out
      have hu2 : Prs w2 (.slice (some ⟨bk, off, none⟩) 0 0) (l.drop n) := Or.inl ⟨HE.out, _, _, rfl⟩
      have ok2 : Okv (.slice (some ⟨bk, off, none⟩) 0 0) := okv_some (Nat.le_refl _)
      have hl2 := hl2 n
      have hKS : Hid (∀ w', Below w2.heap.size w2 w' → w'.cell? ⟨w.heap.size, 0, none⟩ = some (.int .i64 sk) ∧ w'.cell? ⟨w.heap.size, 1, none⟩ = some (.int .i64 sv)) := fun w' h => ⟨(h.cell (p := ⟨w.heap.size, 0, none⟩) (by show w.heap.size < w2.heap.size; omega)).trans s0, (h.cell (p := ⟨w.heap.size, 1, none⟩) (by show w.heap.size < w2.heap.size; omega)).trans s1⟩
      have hKR : Hid (∀ w', Below w2.heap.size w2 w' → w'.cell? ⟨w.heap.size + 1, 0, none⟩ = some (.int .i64 0) ∧ w'.cell? ⟨w.heap.size + 1, 1, none⟩ = some (.slice none 0 0) ∧ w'.frozen? ⟨w.heap.size + 1, 0, none⟩ = false ∧ w'.frozen? ⟨w.heap.size + 1, 1, none⟩ = false) := fun w' h => two_cellsV ((h.block (w.heap.size + 1) (by omega)).trans hr2)
      have hCC : Hid (Calls Try.prog 63 #[.slice (some ⟨w2.heap.size + 1, 0, none⟩) 3 3] ((w2.alloc (.cells #[.int .i64 sk, .int .i64 sv] 26)).alloc (.cells #[.slice (some ⟨bk, off, none⟩) n n, .slice (some ⟨w2.heap.size, 0, none⟩) 1 1, .slice (some ⟨bk, off, none⟩) 0 0] 24)).drew fun e w' => ∃ v', e = .returned v' ∧ w'.ownsRow w2.heap.size 26 2 v' m.length ((fl m).map (Value.int .i64)) ∧ Below w2.heap.size w2 w') := by
        rw [HM.out]
        exact concat_put w2 _ _ _ _ sk sv hu0 hu2 ok0 ok2 hl0 hl2
      have hzr : w.heap.size + 1 < w2.heap.size := by omega
      have HB2 : Hid (Below w.heap.size w w2) := hB2
      clear hu0 hu2 ok0 ok2 hl0 hl2 hb2 hr2 hB2
      go_wp2
      go_region_held3 (fun w' => w'.cell? ⟨w.heap.size, 0, none⟩ = some (.int .i64 sk) ∧ w'.cell? ⟨w.heap.size, 1, none⟩ = some (.int .i64 sv))
        (first | exact ⟨s0, s1⟩ | go_keep | exact hKS.out _ hbq | exact ⟨(World.cell?_setCell_other _ _ _ _ (by simp)).trans ((World.cell?_setCell_other _ _ _ _ (by simp)).trans (hKS.out _ hbq).1), (World.cell?_setCell_other _ _ _ _ (by simp)).trans ((World.cell?_setCell_other _ _ _ _ (by simp)).trans (hKS.out _ hbq).2)⟩)
        (first | (go_at_call 63; refine hCC.out.mono ?_; rintro e wq ⟨vq, rfl, hoq, hbq⟩; obtain ⟨aq, cq, rfl⟩ := own_shape2 hoq; obtain ⟨z0, z1, y0, y1⟩ := hKR.out _ hbq))
      have hBq := below_after_of HB2.out hbq
      have HOq : Hid (wq.ownsRow w2.heap.size 26 2 (.slice aq m.length cq) m.length ((fl m).map (Value.int .i64))) := hoq
      clear hoq
      go_wp2
      refine bodyPost_ret (v := .agg #[.int .i64 0, .slice aq m.length cq]) (by simp [results, Try.results13, go_sem, z0, z1]) rfl ⟨(hBq.setCell (by simp) _).setCell (by simp) _, _, rfl, ?_⟩
      exact own_mono (ownsRow_setCell_below (ownsRow_setCell_below HOq.out (by simpa using hzr) _) (by simpa using hzr) _) (by omega)
    · rcases th with _ | _
      · have h12 : ¬ (n : Int) = 12 := by rcases hfull with h | h; · cases h
                                          · omega
        rw [if_neg (by simp)] at HM
        clear hth hfull hv
        go_enter Try.func13, Try.ntmps13
        go_wp2_with fail
        refine (hF _ (two_new _ _)).mono ?_
        rintro e w1 ⟨rfl, hb1⟩
        obtain ⟨hB1, s0, s1, -, -⟩ := box_cells hb1
        clear hF hB1
        have HB1 : Hid (Below ((w.alloc (.cells #[.int .i64 sk, .int .i64 sv] 26)).alloc (.cells #[.int .i64 0, .slice none 0 0] 30)).heap.size ((w.alloc (.cells #[.int .i64 sk, .int .i64 sv] 26)).alloc (.cells #[.int .i64 0, .slice none 0 0] 30)) w1) := hb1
        clear hb1
        go_wp2_with fail
        refine (hS _).mono ?_
        rintro e w1b ⟨rfl, hbx⟩
        have hb1 := below_after_of HB1.out hbx
        obtain ⟨hB1, s0, s1, -, -⟩ := box_cells hb1
        have HB1b : Hid (Below ((w.alloc (.cells #[.int .i64 sk, .int .i64 sv] 26)).alloc (.cells #[.int .i64 0, .slice none 0 0] 30)).heap.size ((w.alloc (.cells #[.int .i64 sk, .int .i64 sv] 26)).alloc (.cells #[.int .i64 0, .slice none 0 0] 30)) w1b) := hb1
        have HB1c : Hid (Below w.heap.size w w1b) := hB1
        clear hS hbx hb1 hB1 HB1
        go_wp2_with fail
        refine (hP _ HB1c.out).mono ?_
        rintro e w2 ⟨rfl, hbx⟩
        have hb2 := below_after_of HB1b.out hbx
        obtain ⟨hB2, s0, s1, hr2, hz2⟩ := box_cells hb2
        obtain ⟨g0, g1, f0, f1⟩ := two_cellsV hr2
        clear hP hbx HB1b HB1c
        have hu0 := HT.out _ hB2
        have ok0 := OK0.out
        have hu2 : Prs w2 (.slice (some ⟨bk, off + i * 2, none⟩) (n - i) (c - i)) (l.drop i) := prs_drop (HV.out _ hB2) HN.out hin
        have ok2 : Okv (.slice (some ⟨bk, off + i * 2, none⟩) (n - i) (c - i)) := okv_some (by omega)
        have hl2 := hl2 i
        have hKS : Hid (∀ w', Below w2.heap.size w2 w' → w'.cell? ⟨w.heap.size, 0, none⟩ = some (.int .i64 sk) ∧ w'.cell? ⟨w.heap.size, 1, none⟩ = some (.int .i64 sv)) := fun w' h => ⟨(h.cell (p := ⟨w.heap.size, 0, none⟩) (by show w.heap.size < w2.heap.size; omega)).trans s0, (h.cell (p := ⟨w.heap.size, 1, none⟩) (by show w.heap.size < w2.heap.size; omega)).trans s1⟩
        have hKR : Hid (∀ w', Below w2.heap.size w2 w' → w'.cell? ⟨w.heap.size + 1, 0, none⟩ = some (.int .i64 0) ∧ w'.cell? ⟨w.heap.size + 1, 1, none⟩ = some (.slice none 0 0) ∧ w'.frozen? ⟨w.heap.size + 1, 0, none⟩ = false ∧ w'.frozen? ⟨w.heap.size + 1, 1, none⟩ = false) := fun w' h => two_cellsV ((h.block (w.heap.size + 1) (by omega)).trans hr2)
        have hCC : Hid (Calls Try.prog 63 #[.slice (some ⟨w2.heap.size + 1, 0, none⟩) 3 3] ((w2.alloc (.cells #[.int .i64 sk, .int .i64 sv] 26)).alloc (.cells #[.slice (some ⟨bk, off, none⟩) i c, .slice (some ⟨w2.heap.size, 0, none⟩) 1 1, .slice (some ⟨bk, off + i * 2, none⟩) (n - i) (c - i)] 24)).drew fun e w' => ∃ v', e = .returned v' ∧ w'.ownsRow w2.heap.size 26 2 v' m.length ((fl m).map (Value.int .i64)) ∧ Below w2.heap.size w2 w') := by
          rw [HM.out]
          exact concat_put w2 _ _ _ _ sk sv hu0 hu2 ok0 ok2 hl0 hl2
        have hzr : w.heap.size + 1 < w2.heap.size := by omega
        have HB2 : Hid (Below w.heap.size w w2) := hB2
        clear hu0 hu2 ok0 ok2 hl0 hl2 hb2 hr2 hB2
        go_wp2
        go_region_held3 (fun w' => w'.cell? ⟨w.heap.size, 0, none⟩ = some (.int .i64 sk) ∧ w'.cell? ⟨w.heap.size, 1, none⟩ = some (.int .i64 sv))
          (first | exact ⟨s0, s1⟩ | go_keep | exact hKS.out _ hbq | exact ⟨(World.cell?_setCell_other _ _ _ _ (by simp)).trans ((World.cell?_setCell_other _ _ _ _ (by simp)).trans (hKS.out _ hbq).1), (World.cell?_setCell_other _ _ _ _ (by simp)).trans ((World.cell?_setCell_other _ _ _ _ (by simp)).trans (hKS.out _ hbq).2)⟩)
          (first | (go_at_call 63; refine hCC.out.mono ?_; rintro e wq ⟨vq, rfl, hoq, hbq⟩; obtain ⟨aq, cq, rfl⟩ := own_shape2 hoq; obtain ⟨z0, z1, y0, y1⟩ := hKR.out _ hbq))
        have hBq := below_after_of HB2.out hbq
        have HOq : Hid (wq.ownsRow w2.heap.size 26 2 (.slice aq m.length cq) m.length ((fl m).map (Value.int .i64))) := hoq
        clear hoq
        go_wp2
        refine bodyPost_ret (v := .agg #[.int .i64 0, .slice aq m.length cq]) (by simp [results, Try.results13, go_sem, z0, z1]) rfl ⟨(hBq.setCell (by simp) _).setCell (by simp) _, _, rfl, ?_⟩
        exact own_mono (ownsRow_setCell_below (ownsRow_setCell_below HOq.out (by simpa using hzr) _) (by simpa using hzr) _) (by omega)
      · have hin3 := hth rfl
        rw [if_pos rfl] at HM
        clear hth hfull hv
        have h1n : (1 : Int) ≤ ((n - i : Nat) : Int) := by omega
        have h1c : (1 : Int) ≤ ((c - i : Nat) : Int) := by omega
        by_cases hc1 : c - i = 1
        · have hn1 : n - i = 1 := by omega
          have HE : Hid (l.drop (i + 1) = []) := by show _ = _; exact List.drop_eq_nil_of_le (by have := HN.out; omega)
          go_enter Try.func13, Try.ntmps13
          go_wp2_with fail
          refine (hF _ (two_new _ _)).mono ?_
          rintro e w1 ⟨rfl, hb1⟩
          obtain ⟨hB1, s0, s1, -, -⟩ := box_cells hb1
          clear hF hB1
          have HB1 : Hid (Below ((w.alloc (.cells #[.int .i64 sk, .int .i64 sv] 26)).alloc (.cells #[.int .i64 0, .slice none 0 0] 30)).heap.size ((w.alloc (.cells #[.int .i64 sk, .int .i64 sv] 26)).alloc (.cells #[.int .i64 0, .slice none 0 0] 30)) w1) := hb1
          clear hb1
          go_wp2_with fail
          refine (hS _).mono ?_
          rintro e w1b ⟨rfl, hbx⟩
          have hb1 := below_after_of HB1.out hbx
          obtain ⟨hB1, s0, s1, -, -⟩ := box_cells hb1
          have HB1b : Hid (Below ((w.alloc (.cells #[.int .i64 sk, .int .i64 sv] 26)).alloc (.cells #[.int .i64 0, .slice none 0 0] 30)).heap.size ((w.alloc (.cells #[.int .i64 sk, .int .i64 sv] 26)).alloc (.cells #[.int .i64 0, .slice none 0 0] 30)) w1b) := hb1
          have HB1c : Hid (Below w.heap.size w w1b) := hB1
          clear hS hbx hb1 hB1 HB1
          go_wp2_with fail
          refine (hP _ HB1c.out).mono ?_
          rintro e w2 ⟨rfl, hbx⟩
          have hb2 := below_after_of HB1b.out hbx
          obtain ⟨hB2, s0, s1, hr2, hz2⟩ := box_cells hb2
          obtain ⟨g0, g1, f0, f1⟩ := two_cellsV hr2
          clear hP hbx HB1b HB1c
          have hu0 := HT.out _ hB2
          have ok0 := OK0.out
          have hu2 : Prs w2 (.slice (some ⟨bk, off + i * 2, none⟩) 0 0) (l.drop (i + 1)) := Or.inl ⟨HE.out, _, _, rfl⟩
          have ok2 : Okv (.slice (some ⟨bk, off + i * 2, none⟩) 0 0) := okv_some (Nat.le_refl _)
          have hl2 := hl2 (i + 1)
          have hKS : Hid (∀ w', Below w2.heap.size w2 w' → w'.cell? ⟨w.heap.size, 0, none⟩ = some (.int .i64 sk) ∧ w'.cell? ⟨w.heap.size, 1, none⟩ = some (.int .i64 sv)) := fun w' h => ⟨(h.cell (p := ⟨w.heap.size, 0, none⟩) (by show w.heap.size < w2.heap.size; omega)).trans s0, (h.cell (p := ⟨w.heap.size, 1, none⟩) (by show w.heap.size < w2.heap.size; omega)).trans s1⟩
          have hKR : Hid (∀ w', Below w2.heap.size w2 w' → w'.cell? ⟨w.heap.size + 1, 0, none⟩ = some (.int .i64 0) ∧ w'.cell? ⟨w.heap.size + 1, 1, none⟩ = some (.slice none 0 0) ∧ w'.frozen? ⟨w.heap.size + 1, 0, none⟩ = false ∧ w'.frozen? ⟨w.heap.size + 1, 1, none⟩ = false) := fun w' h => two_cellsV ((h.block (w.heap.size + 1) (by omega)).trans hr2)
          have hCC : Hid (Calls Try.prog 63 #[.slice (some ⟨w2.heap.size + 1, 0, none⟩) 3 3] ((w2.alloc (.cells #[.int .i64 sk, .int .i64 sv] 26)).alloc (.cells #[.slice (some ⟨bk, off, none⟩) i c, .slice (some ⟨w2.heap.size, 0, none⟩) 1 1, .slice (some ⟨bk, off + i * 2, none⟩) 0 0] 24)).drew fun e w' => ∃ v', e = .returned v' ∧ w'.ownsRow w2.heap.size 26 2 v' m.length ((fl m).map (Value.int .i64)) ∧ Below w2.heap.size w2 w') := by
            rw [HM.out]
            exact concat_put w2 _ _ _ _ sk sv hu0 hu2 ok0 ok2 hl0 hl2
          have hzr : w.heap.size + 1 < w2.heap.size := by omega
          have HB2 : Hid (Below w.heap.size w w2) := hB2
          clear hu0 hu2 ok0 ok2 hl0 hl2 hb2 hr2 hB2
          go_wp2
          go_region_held3 (fun w' => w'.cell? ⟨w.heap.size, 0, none⟩ = some (.int .i64 sk) ∧ w'.cell? ⟨w.heap.size, 1, none⟩ = some (.int .i64 sv))
            (first | exact ⟨s0, s1⟩ | go_keep | exact hKS.out _ hbq | exact ⟨(World.cell?_setCell_other _ _ _ _ (by simp)).trans ((World.cell?_setCell_other _ _ _ _ (by simp)).trans (hKS.out _ hbq).1), (World.cell?_setCell_other _ _ _ _ (by simp)).trans ((World.cell?_setCell_other _ _ _ _ (by simp)).trans (hKS.out _ hbq).2)⟩)
            (first | (go_at_call 63; refine hCC.out.mono ?_; rintro e wq ⟨vq, rfl, hoq, hbq⟩; obtain ⟨aq, cq, rfl⟩ := own_shape2 hoq; obtain ⟨z0, z1, y0, y1⟩ := hKR.out _ hbq))
          have hBq := below_after_of HB2.out hbq
          have HOq : Hid (wq.ownsRow w2.heap.size 26 2 (.slice aq m.length cq) m.length ((fl m).map (Value.int .i64))) := hoq
          clear hoq
          go_wp2
          refine bodyPost_ret (v := .agg #[.int .i64 0, .slice aq m.length cq]) (by simp [results, Try.results13, go_sem, z0, z1]) rfl ⟨(hBq.setCell (by simp) _).setCell (by simp) _, _, rfl, ?_⟩
          exact own_mono (ownsRow_setCell_below (ownsRow_setCell_below HOq.out (by simpa using hzr) _) (by simpa using hzr) _) (by omega)
        · have hu2a : ∀ w', Below w.heap.size w w' → Prs w' (.slice (some ⟨bk, off + i * 2 + 2, none⟩) (n - i - 1) (c - i - 1)) (l.drop (i + 1)) := fun w' h => by
            have := prs_drop (c' := c - i - 1) (i := i + 1) (HV.out _ h) HN.out (by omega)
            rw [show off + (i + 1) * 2 = off + i * 2 + 2 by omega, show n - (i + 1) = n - i - 1 by omega] at this
            exact this
          have HU2 : Hid (∀ w', Below w.heap.size w w' → Prs w' (.slice (some ⟨bk, off + i * 2 + 2, none⟩) (n - i - 1) (c - i - 1)) (l.drop (i + 1))) := hu2a
          clear hu2a
          go_enter Try.func13, Try.ntmps13
          go_wp2_with fail
          refine (hF _ (two_new _ _)).mono ?_
          rintro e w1 ⟨rfl, hb1⟩
          obtain ⟨hB1, s0, s1, -, -⟩ := box_cells hb1
          clear hF hB1
          have HB1 : Hid (Below ((w.alloc (.cells #[.int .i64 sk, .int .i64 sv] 26)).alloc (.cells #[.int .i64 0, .slice none 0 0] 30)).heap.size ((w.alloc (.cells #[.int .i64 sk, .int .i64 sv] 26)).alloc (.cells #[.int .i64 0, .slice none 0 0] 30)) w1) := hb1
          clear hb1
          go_wp2_with fail
          refine (hS _).mono ?_
          rintro e w1b ⟨rfl, hbx⟩
          have hb1 := below_after_of HB1.out hbx
          obtain ⟨hB1, s0, s1, -, -⟩ := box_cells hb1
          have HB1b : Hid (Below ((w.alloc (.cells #[.int .i64 sk, .int .i64 sv] 26)).alloc (.cells #[.int .i64 0, .slice none 0 0] 30)).heap.size ((w.alloc (.cells #[.int .i64 sk, .int .i64 sv] 26)).alloc (.cells #[.int .i64 0, .slice none 0 0] 30)) w1b) := hb1
          have HB1c : Hid (Below w.heap.size w w1b) := hB1
          clear hS hbx hb1 hB1 HB1
          go_wp2_with fail
          refine (hP _ HB1c.out).mono ?_
          rintro e w2 ⟨rfl, hbx⟩
          have hb2 := below_after_of HB1b.out hbx
          obtain ⟨hB2, s0, s1, hr2, hz2⟩ := box_cells hb2
          obtain ⟨g0, g1, f0, f1⟩ := two_cellsV hr2
          clear hP hbx HB1b HB1c
          have hu0 := HT.out _ hB2
          have ok0 := OK0.out
          have hu2 := HU2.out _ hB2
          have ok2 : Okv (.slice (some ⟨bk, off + i * 2 + 2, none⟩) (n - i - 1) (c - i - 1)) := okv_some (by omega)
          have hl2 := hl2 (i + 1)
          have hKS : Hid (∀ w', Below w2.heap.size w2 w' → w'.cell? ⟨w.heap.size, 0, none⟩ = some (.int .i64 sk) ∧ w'.cell? ⟨w.heap.size, 1, none⟩ = some (.int .i64 sv)) := fun w' h => ⟨(h.cell (p := ⟨w.heap.size, 0, none⟩) (by show w.heap.size < w2.heap.size; omega)).trans s0, (h.cell (p := ⟨w.heap.size, 1, none⟩) (by show w.heap.size < w2.heap.size; omega)).trans s1⟩
          have hKR : Hid (∀ w', Below w2.heap.size w2 w' → w'.cell? ⟨w.heap.size + 1, 0, none⟩ = some (.int .i64 0) ∧ w'.cell? ⟨w.heap.size + 1, 1, none⟩ = some (.slice none 0 0) ∧ w'.frozen? ⟨w.heap.size + 1, 0, none⟩ = false ∧ w'.frozen? ⟨w.heap.size + 1, 1, none⟩ = false) := fun w' h => two_cellsV ((h.block (w.heap.size + 1) (by omega)).trans hr2)
          have hCC : Hid (Calls Try.prog 63 #[.slice (some ⟨w2.heap.size + 1, 0, none⟩) 3 3] ((w2.alloc (.cells #[.int .i64 sk, .int .i64 sv] 26)).alloc (.cells #[.slice (some ⟨bk, off, none⟩) i c, .slice (some ⟨w2.heap.size, 0, none⟩) 1 1, .slice (some ⟨bk, off + i * 2 + 2, none⟩) (n - i - 1) (c - i - 1)] 24)).drew fun e w' => ∃ v', e = .returned v' ∧ w'.ownsRow w2.heap.size 26 2 v' m.length ((fl m).map (Value.int .i64)) ∧ Below w2.heap.size w2 w') := by
            rw [HM.out]
            exact concat_put w2 _ _ _ _ sk sv hu0 hu2 ok0 ok2 hl0 hl2
          have hzr : w.heap.size + 1 < w2.heap.size := by omega
          have HB2 : Hid (Below w.heap.size w w2) := hB2
          clear hu0 hu2 ok0 ok2 hl0 hl2 hb2 hr2 hB2
          go_wp2
          go_region_held3 (fun w' => w'.cell? ⟨w.heap.size, 0, none⟩ = some (.int .i64 sk) ∧ w'.cell? ⟨w.heap.size, 1, none⟩ = some (.int .i64 sv))
            (first | exact ⟨s0, s1⟩ | go_keep | exact hKS.out _ hbq | exact ⟨(World.cell?_setCell_other _ _ _ _ (by simp)).trans ((World.cell?_setCell_other _ _ _ _ (by simp)).trans (hKS.out _ hbq).1), (World.cell?_setCell_other _ _ _ _ (by simp)).trans ((World.cell?_setCell_other _ _ _ _ (by simp)).trans (hKS.out _ hbq).2)⟩)
            (first | (go_at_call 63; refine hCC.out.mono ?_; rintro e wq ⟨vq, rfl, hoq, hbq⟩; obtain ⟨aq, cq, rfl⟩ := own_shape2 hoq; obtain ⟨z0, z1, y0, y1⟩ := hKR.out _ hbq))
          have hBq := below_after_of HB2.out hbq
          have HOq : Hid (wq.ownsRow w2.heap.size 26 2 (.slice aq m.length cq) m.length ((fl m).map (Value.int .i64))) := hoq
          clear hoq
          go_wp2
          refine bodyPost_ret (v := .agg #[.int .i64 0, .slice aq m.length cq]) (by simp [results, Try.results13, go_sem, z0, z1]) rfl ⟨(hBq.setCell (by simp) _).setCell (by simp) _, _, rfl, ?_⟩
          exact own_mono (ownsRow_setCell_below (ownsRow_setCell_below HOq.out (by simpa using hzr) _) (by simpa using hzr) _) (by omega)
  · have hn0 : n = 0 := by omega
    have hi0 : i = 0 := by omega
    have hthf : th = false := by
      rcases Bool.eq_false_or_eq_true th with h | h
      · have := hth h; omega
      · exact h
    subst hn0 hi0 hthf
    rw [if_neg (by simp)] at HM
    have HE : Hid (l.drop 0 = []) := by show _ = _; rw [List.eq_nil_of_length_eq_zero HN.out.symm]; rfl
    clear hth hfull hv
    rcases ad with _ | ⟨b, o, sp⟩
    · have hc0 : c = 0 := (hok _ _ _ rfl).2 rfl
      subst hc0
      clear hok
      go_enter Try.func13, Try.ntmps13
      go_wp2_with fail
      refine (hF _ (two_new _ _)).mono ?_
      rintro e w1 ⟨rfl, hb1⟩
      obtain ⟨hB1, s0, s1, -, -⟩ := box_cells hb1
      clear hF hB1
      have HB1 : Hid (Below ((w.alloc (.cells #[.int .i64 sk, .int .i64 sv] 26)).alloc (.cells #[.int .i64 0, .slice none 0 0] 30)).heap.size ((w.alloc (.cells #[.int .i64 sk, .int .i64 sv] 26)).alloc (.cells #[.int .i64 0, .slice none 0 0] 30)) w1) := hb1
      clear hb1
      go_wp2_with fail
      refine (hS _).mono ?_
      rintro e w1b ⟨rfl, hbx⟩
      have hb1 := below_after_of HB1.out hbx
      obtain ⟨hB1, s0, s1, -, -⟩ := box_cells hb1
      have HB1b : Hid (Below ((w.alloc (.cells #[.int .i64 sk, .int .i64 sv] 26)).alloc (.cells #[.int .i64 0, .slice none 0 0] 30)).heap.size ((w.alloc (.cells #[.int .i64 sk, .int .i64 sv] 26)).alloc (.cells #[.int .i64 0, .slice none 0 0] 30)) w1b) := hb1
      have HB1c : Hid (Below w.heap.size w w1b) := hB1
      clear hS hbx hb1 hB1 HB1
      go_wp2_with fail
      refine (hP _ HB1c.out).mono ?_
      rintro e w2 ⟨rfl, hbx⟩
      have hb2 := below_after_of HB1b.out hbx
      obtain ⟨hB2, s0, s1, hr2, hz2⟩ := box_cells hb2
      obtain ⟨g0, g1, f0, f1⟩ := two_cellsV hr2
      clear hP hbx HB1b HB1c
      have hu0 := HT.out _ hB2
      have ok0 := OK0.out
      have hu2 : Prs w2 (.slice none 0 0) (l.drop 0) := Or.inl ⟨HE.out, _, _, rfl⟩
      have ok2 : Okv (.slice none 0 0) := OK0.out
      have hl2 := hl2 0
      have hKS : Hid (∀ w', Below w2.heap.size w2 w' → w'.cell? ⟨w.heap.size, 0, none⟩ = some (.int .i64 sk) ∧ w'.cell? ⟨w.heap.size, 1, none⟩ = some (.int .i64 sv)) := fun w' h => ⟨(h.cell (p := ⟨w.heap.size, 0, none⟩) (by show w.heap.size < w2.heap.size; omega)).trans s0, (h.cell (p := ⟨w.heap.size, 1, none⟩) (by show w.heap.size < w2.heap.size; omega)).trans s1⟩
      have hKR : Hid (∀ w', Below w2.heap.size w2 w' → w'.cell? ⟨w.heap.size + 1, 0, none⟩ = some (.int .i64 0) ∧ w'.cell? ⟨w.heap.size + 1, 1, none⟩ = some (.slice none 0 0) ∧ w'.frozen? ⟨w.heap.size + 1, 0, none⟩ = false ∧ w'.frozen? ⟨w.heap.size + 1, 1, none⟩ = false) := fun w' h => two_cellsV ((h.block (w.heap.size + 1) (by omega)).trans hr2)
      have hCC : Hid (Calls Try.prog 63 #[.slice (some ⟨w2.heap.size + 1, 0, none⟩) 3 3] ((w2.alloc (.cells #[.int .i64 sk, .int .i64 sv] 26)).alloc (.cells #[.slice none 0 0, .slice (some ⟨w2.heap.size, 0, none⟩) 1 1, .slice none 0 0] 24)).drew fun e w' => ∃ v', e = .returned v' ∧ w'.ownsRow w2.heap.size 26 2 v' m.length ((fl m).map (Value.int .i64)) ∧ Below w2.heap.size w2 w') := by
        rw [HM.out]
        exact concat_put w2 _ _ _ _ sk sv hu0 hu2 ok0 ok2 hl0 hl2
      have hzr : w.heap.size + 1 < w2.heap.size := by omega
      have HB2 : Hid (Below w.heap.size w w2) := hB2
      clear hu0 hu2 ok0 ok2 hl0 hl2 hb2 hr2 hB2
      go_wp2
      go_region_held3 (fun w' => w'.cell? ⟨w.heap.size, 0, none⟩ = some (.int .i64 sk) ∧ w'.cell? ⟨w.heap.size, 1, none⟩ = some (.int .i64 sv))
        (first | exact ⟨s0, s1⟩ | go_keep | exact hKS.out _ hbq | exact ⟨(World.cell?_setCell_other _ _ _ _ (by simp)).trans ((World.cell?_setCell_other _ _ _ _ (by simp)).trans (hKS.out _ hbq).1), (World.cell?_setCell_other _ _ _ _ (by simp)).trans ((World.cell?_setCell_other _ _ _ _ (by simp)).trans (hKS.out _ hbq).2)⟩)
        (first | (go_at_call 63; refine hCC.out.mono ?_; rintro e wq ⟨vq, rfl, hoq, hbq⟩; obtain ⟨aq, cq, rfl⟩ := own_shape2 hoq; obtain ⟨z0, z1, y0, y1⟩ := hKR.out _ hbq))
      have hBq := below_after_of HB2.out hbq
      have HOq : Hid (wq.ownsRow w2.heap.size 26 2 (.slice aq m.length cq) m.length ((fl m).map (Value.int .i64))) := hoq
      clear hoq
      go_wp2
      refine bodyPost_ret (v := .agg #[.int .i64 0, .slice aq m.length cq]) (by simp [results, Try.results13, go_sem, z0, z1]) rfl ⟨(hBq.setCell (by simp) _).setCell (by simp) _, _, rfl, ?_⟩
      exact own_mono (ownsRow_setCell_below (ownsRow_setCell_below HOq.out (by simpa using hzr) _) (by simpa using hzr) _) (by omega)
    · by_cases hc0 : c = 0
      · subst hc0
        go_enter Try.func13, Try.ntmps13
        go_wp2_with fail
        refine (hF _ (two_new _ _)).mono ?_
        rintro e w1 ⟨rfl, hb1⟩
        obtain ⟨hB1, s0, s1, -, -⟩ := box_cells hb1
        clear hF hB1
        have HB1 : Hid (Below ((w.alloc (.cells #[.int .i64 sk, .int .i64 sv] 26)).alloc (.cells #[.int .i64 0, .slice none 0 0] 30)).heap.size ((w.alloc (.cells #[.int .i64 sk, .int .i64 sv] 26)).alloc (.cells #[.int .i64 0, .slice none 0 0] 30)) w1) := hb1
        clear hb1
        go_wp2_with fail
        refine (hS _).mono ?_
        rintro e w1b ⟨rfl, hbx⟩
        have hb1 := below_after_of HB1.out hbx
        obtain ⟨hB1, s0, s1, -, -⟩ := box_cells hb1
        have HB1b : Hid (Below ((w.alloc (.cells #[.int .i64 sk, .int .i64 sv] 26)).alloc (.cells #[.int .i64 0, .slice none 0 0] 30)).heap.size ((w.alloc (.cells #[.int .i64 sk, .int .i64 sv] 26)).alloc (.cells #[.int .i64 0, .slice none 0 0] 30)) w1b) := hb1
        have HB1c : Hid (Below w.heap.size w w1b) := hB1
        clear hS hbx hb1 hB1 HB1
        go_wp2_with fail
        refine (hP _ HB1c.out).mono ?_
        rintro e w2 ⟨rfl, hbx⟩
        have hb2 := below_after_of HB1b.out hbx
        obtain ⟨hB2, s0, s1, hr2, hz2⟩ := box_cells hb2
        obtain ⟨g0, g1, f0, f1⟩ := two_cellsV hr2
        clear hP hbx HB1b HB1c
        have hu0 := HT.out _ hB2
        have ok0 := OK0.out
        have hu2 : Prs w2 (.slice (some ⟨b, o, sp⟩) 0 0) (l.drop 0) := Or.inl ⟨HE.out, _, _, rfl⟩
        have ok2 : Okv (.slice (some ⟨b, o, sp⟩) 0 0) := OK0.out
        have hl2 := hl2 0
        have hKS : Hid (∀ w', Below w2.heap.size w2 w' → w'.cell? ⟨w.heap.size, 0, none⟩ = some (.int .i64 sk) ∧ w'.cell? ⟨w.heap.size, 1, none⟩ = some (.int .i64 sv)) := fun w' h => ⟨(h.cell (p := ⟨w.heap.size, 0, none⟩) (by show w.heap.size < w2.heap.size; omega)).trans s0, (h.cell (p := ⟨w.heap.size, 1, none⟩) (by show w.heap.size < w2.heap.size; omega)).trans s1⟩
        have hKR : Hid (∀ w', Below w2.heap.size w2 w' → w'.cell? ⟨w.heap.size + 1, 0, none⟩ = some (.int .i64 0) ∧ w'.cell? ⟨w.heap.size + 1, 1, none⟩ = some (.slice none 0 0) ∧ w'.frozen? ⟨w.heap.size + 1, 0, none⟩ = false ∧ w'.frozen? ⟨w.heap.size + 1, 1, none⟩ = false) := fun w' h => two_cellsV ((h.block (w.heap.size + 1) (by omega)).trans hr2)
        have hCC : Hid (Calls Try.prog 63 #[.slice (some ⟨w2.heap.size + 1, 0, none⟩) 3 3] ((w2.alloc (.cells #[.int .i64 sk, .int .i64 sv] 26)).alloc (.cells #[.slice (some ⟨b, o, sp⟩) 0 0, .slice (some ⟨w2.heap.size, 0, none⟩) 1 1, .slice (some ⟨b, o, sp⟩) 0 0] 24)).drew fun e w' => ∃ v', e = .returned v' ∧ w'.ownsRow w2.heap.size 26 2 v' m.length ((fl m).map (Value.int .i64)) ∧ Below w2.heap.size w2 w') := by
          rw [HM.out]
          exact concat_put w2 _ _ _ _ sk sv hu0 hu2 ok0 ok2 hl0 hl2
        have hzr : w.heap.size + 1 < w2.heap.size := by omega
        have HB2 : Hid (Below w.heap.size w w2) := hB2
        clear hu0 hu2 ok0 ok2 hl0 hl2 hb2 hr2 hB2
        go_wp2
        go_region_held3 (fun w' => w'.cell? ⟨w.heap.size, 0, none⟩ = some (.int .i64 sk) ∧ w'.cell? ⟨w.heap.size, 1, none⟩ = some (.int .i64 sv))
          (first | exact ⟨s0, s1⟩ | go_keep | exact hKS.out _ hbq | exact ⟨(World.cell?_setCell_other _ _ _ _ (by simp)).trans ((World.cell?_setCell_other _ _ _ _ (by simp)).trans (hKS.out _ hbq).1), (World.cell?_setCell_other _ _ _ _ (by simp)).trans ((World.cell?_setCell_other _ _ _ _ (by simp)).trans (hKS.out _ hbq).2)⟩)
          (first | (go_at_call 63; refine hCC.out.mono ?_; rintro e wq ⟨vq, rfl, hoq, hbq⟩; obtain ⟨aq, cq, rfl⟩ := own_shape2 hoq; obtain ⟨z0, z1, y0, y1⟩ := hKR.out _ hbq))
        have hBq := below_after_of HB2.out hbq
        have HOq : Hid (wq.ownsRow w2.heap.size 26 2 (.slice aq m.length cq) m.length ((fl m).map (Value.int .i64))) := hoq
        clear hoq
        go_wp2
        refine bodyPost_ret (v := .agg #[.int .i64 0, .slice aq m.length cq]) (by simp [results, Try.results13, go_sem, z0, z1]) rfl ⟨(hBq.setCell (by simp) _).setCell (by simp) _, _, rfl, ?_⟩
        exact own_mono (ownsRow_setCell_below (ownsRow_setCell_below HOq.out (by simpa using hzr) _) (by simpa using hzr) _) (by omega)
      · clear hok
        go_enter Try.func13, Try.ntmps13
        go_wp2_with fail
        refine (hF _ (two_new _ _)).mono ?_
        rintro e w1 ⟨rfl, hb1⟩
        obtain ⟨hB1, s0, s1, -, -⟩ := box_cells hb1
        clear hF hB1
        have HB1 : Hid (Below ((w.alloc (.cells #[.int .i64 sk, .int .i64 sv] 26)).alloc (.cells #[.int .i64 0, .slice none 0 0] 30)).heap.size ((w.alloc (.cells #[.int .i64 sk, .int .i64 sv] 26)).alloc (.cells #[.int .i64 0, .slice none 0 0] 30)) w1) := hb1
        clear hb1
        go_wp2_with fail
        refine (hS _).mono ?_
        rintro e w1b ⟨rfl, hbx⟩
        have hb1 := below_after_of HB1.out hbx
        obtain ⟨hB1, s0, s1, -, -⟩ := box_cells hb1
        have HB1b : Hid (Below ((w.alloc (.cells #[.int .i64 sk, .int .i64 sv] 26)).alloc (.cells #[.int .i64 0, .slice none 0 0] 30)).heap.size ((w.alloc (.cells #[.int .i64 sk, .int .i64 sv] 26)).alloc (.cells #[.int .i64 0, .slice none 0 0] 30)) w1b) := hb1
        have HB1c : Hid (Below w.heap.size w w1b) := hB1
        clear hS hbx hb1 hB1 HB1
        go_wp2_with fail
        refine (hP _ HB1c.out).mono ?_
        rintro e w2 ⟨rfl, hbx⟩
        have hb2 := below_after_of HB1b.out hbx
        obtain ⟨hB2, s0, s1, hr2, hz2⟩ := box_cells hb2
        obtain ⟨g0, g1, f0, f1⟩ := two_cellsV hr2
        clear hP hbx HB1b HB1c
        have hu0 := HT.out _ hB2
        have ok0 := OK0.out
        have hu2 : Prs w2 (.slice (some ⟨b, o, sp⟩) 0 c) (l.drop 0) := Or.inl ⟨HE.out, _, _, rfl⟩
        have ok2 : Okv (.slice (some ⟨b, o, sp⟩) 0 c) := OK0.out
        have hl2 := hl2 0
        have hKS : Hid (∀ w', Below w2.heap.size w2 w' → w'.cell? ⟨w.heap.size, 0, none⟩ = some (.int .i64 sk) ∧ w'.cell? ⟨w.heap.size, 1, none⟩ = some (.int .i64 sv)) := fun w' h => ⟨(h.cell (p := ⟨w.heap.size, 0, none⟩) (by show w.heap.size < w2.heap.size; omega)).trans s0, (h.cell (p := ⟨w.heap.size, 1, none⟩) (by show w.heap.size < w2.heap.size; omega)).trans s1⟩
        have hKR : Hid (∀ w', Below w2.heap.size w2 w' → w'.cell? ⟨w.heap.size + 1, 0, none⟩ = some (.int .i64 0) ∧ w'.cell? ⟨w.heap.size + 1, 1, none⟩ = some (.slice none 0 0) ∧ w'.frozen? ⟨w.heap.size + 1, 0, none⟩ = false ∧ w'.frozen? ⟨w.heap.size + 1, 1, none⟩ = false) := fun w' h => two_cellsV ((h.block (w.heap.size + 1) (by omega)).trans hr2)
        have hCC : Hid (Calls Try.prog 63 #[.slice (some ⟨w2.heap.size + 1, 0, none⟩) 3 3] ((w2.alloc (.cells #[.int .i64 sk, .int .i64 sv] 26)).alloc (.cells #[.slice (some ⟨b, o, sp⟩) 0 c, .slice (some ⟨w2.heap.size, 0, none⟩) 1 1, .slice (some ⟨b, o, sp⟩) 0 c] 24)).drew fun e w' => ∃ v', e = .returned v' ∧ w'.ownsRow w2.heap.size 26 2 v' m.length ((fl m).map (Value.int .i64)) ∧ Below w2.heap.size w2 w') := by
          rw [HM.out]
          exact concat_put w2 _ _ _ _ sk sv hu0 hu2 ok0 ok2 hl0 hl2
        have hzr : w.heap.size + 1 < w2.heap.size := by omega
        have HB2 : Hid (Below w.heap.size w w2) := hB2
        clear hu0 hu2 ok0 ok2 hl0 hl2 hb2 hr2 hB2
        go_wp2
        go_region_held3 (fun w' => w'.cell? ⟨w.heap.size, 0, none⟩ = some (.int .i64 sk) ∧ w'.cell? ⟨w.heap.size, 1, none⟩ = some (.int .i64 sv))
          (first | exact ⟨s0, s1⟩ | go_keep | exact hKS.out _ hbq | exact ⟨(World.cell?_setCell_other _ _ _ _ (by simp)).trans ((World.cell?_setCell_other _ _ _ _ (by simp)).trans (hKS.out _ hbq).1), (World.cell?_setCell_other _ _ _ _ (by simp)).trans ((World.cell?_setCell_other _ _ _ _ (by simp)).trans (hKS.out _ hbq).2)⟩)
          (first | (go_at_call 63; refine hCC.out.mono ?_; rintro e wq ⟨vq, rfl, hoq, hbq⟩; obtain ⟨aq, cq, rfl⟩ := own_shape2 hoq; obtain ⟨z0, z1, y0, y1⟩ := hKR.out _ hbq))
        have hBq := below_after_of HB2.out hbq
        have HOq : Hid (wq.ownsRow w2.heap.size 26 2 (.slice aq m.length cq) m.length ((fl m).map (Value.int .i64))) := hoq
        clear hoq
        go_wp2
        refine bodyPost_ret (v := .agg #[.int .i64 0, .slice aq m.length cq]) (by simp [results, Try.results13, go_sem, z0, z1]) rfl ⟨(hBq.setCell (by simp) _).setCell (by simp) _, _, rfl, ?_⟩
        exact own_mono (ownsRow_setCell_below (ownsRow_setCell_below HOq.out (by simpa using hzr) _) (by simpa using hzr) _) (by omega)
end U
end Go.Proofs.Ytgflamlfplpfdaa
