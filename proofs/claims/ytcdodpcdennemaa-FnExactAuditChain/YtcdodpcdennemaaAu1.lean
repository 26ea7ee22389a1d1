/- A chain that goes on from a chain that was trusted: what both models answer. -/
import Derived.Test.YtcdodpcdennemaaHdQ
import Derived.Test.YtcdodpcdennemaaHd5
namespace Go.Proofs.Ytcdodpcdennemaa
open Go.RowKit
namespace U
theorem hAt_take {l : Hdl} {k j : Nat} (h : j < k) : hAt (l.take k) j = hAt l j := by
  unfold hAt
  rw [List.getD_eq_getElem?_getD, List.getD_eq_getElem?_getD, List.getElem?_take, if_pos h]
theorem Hds.take {w : World} {a : Option Addr} {n c : Nat} {l : Hdl} (h : Hds w (.slice a n c) l) {k : Nat} (hk : k ≤ l.length) (c' : Nat) : Hds w (.slice a k c') (l.take k) := by
  have hl : (l.take k).length = k := by rw [List.length_take]; omega
  by_cases h0 : k = 0
  · subst h0
    exact Or.inl ⟨rfl, a, c', rfl⟩
  · obtain ⟨-, b, off, rfl, hb, hc⟩ := h.at (by omega)
    exact Or.inr ⟨b, off, c', by rw [hl], hb, fun j hj => by rw [hl] at hj; rw [hAt_take hj]; exact hc j (by omega)⟩
def auC (t l : Hdl) : Int := if chF t = 0 then (if chF l = 0 then (if l.length < t.length then 10 else if eqH (l.take t.length) t = true then 0 else 9) else chF l) else chF t
theorem auC_t {t l : Hdl} (h : ¬ chF t = 0) : auC t l = chF t := if_neg h
theorem auC_l {t l : Hdl} (h : chF t = 0) (h1 : ¬ chF l = 0) : auC t l = chF l := by unfold auC; rw [if_pos h, if_neg h1]
theorem auC_few {t l : Hdl} (h : chF t = 0) (h1 : chF l = 0) (h2 : l.length < t.length) : auC t l = 10 := by unfold auC; rw [if_pos h, if_pos h1, if_pos h2]
theorem auC_eq {t l : Hdl} (h : chF t = 0) (h1 : chF l = 0) (h2 : ¬ l.length < t.length) : auC t l = if eqH (l.take t.length) t = true then 0 else 9 := by unfold auC; rw [if_pos h, if_pos h1, if_neg h2]
set_option maxRecDepth 100000 in
set_option maxHeartbeats 2000000 in
theorem implAuditChain_any (v u : Value) (t l : Hdl) (w : World) (hv : Hds w v t) (hu : Hds w u l) (hx : t.length ≤ 1048576) (hy : l.length ≤ 1048576) (HC : Hid (∃ a n c, u = .slice a n c ∧ n ≤ c)) :
    Calls Try.prog 40 #[v, u] w fun e w' => e = .returned (.int .i64 (auC t l)) ∧ Below w.heap.size w w' := by
  have hC1 := implChainFault_any v t w hv (by omega)
  have hC2 := fun w' h => implChainFault_any u l w' (hu.below (w' := w') h) (by omega)
  have hOr := fun x w hw => cmpOr2 (chF t) (chF l) x w hw
  obtain ⟨a, c, rfl⟩ := hv.shape
  obtain ⟨a', c', rfl⟩ := hu.shape
  have hcap : l.length ≤ c' := by obtain ⟨_, _, _, e, h⟩ := HC.out; cases e; exact h
  have hE := fun w' h (hk : t.length ≤ l.length) c2 => hdEq_any (.slice a' t.length c2) (.slice a t.length c) (l.take t.length) t w' ((hu.below (w' := w') h).take hk c2) (hv.below h) (by rw [List.length_take]; omega) hx
  have HR : Hid ((if chF t = 0 then chF l else chF t) = 0 → chF t = 0 ∧ chF l = 0) := fun h => by
    by_cases h1 : chF t = 0
    · rw [if_pos h1] at h; exact ⟨h1, h⟩
    · rw [if_neg h1] at h; exact absurd h h1
  have HR2 : Hid (¬ (if chF t = 0 then chF l else chF t) = 0 → auC t l = (if chF t = 0 then chF l else chF t)) := fun h => by
    by_cases h1 : chF t = 0
    · rw [if_pos h1] at h ⊢; exact auC_l h1 h
    · rw [if_neg h1]; exact auC_t h1
  have HF : Hid (chF t = 0 → chF l = 0 → l.length < t.length → auC t l = 10) := auC_few
  have HG : Hid (chF t = 0 → chF l = 0 → ¬ l.length < t.length → auC t l = if eqH (l.take t.length) t = true then 0 else 9) := auC_eq
  generalize auC t l = q at *
  generalize (if chF t = 0 then chF l else chF t) = r at *
  generalize eqH (l.take t.length) t = eb at *
  generalize chF t = ct at *
  generalize chF l = cl at *
  generalize t.length = tn at *
  generalize l.length = ln at *
  clear hv hu HC
  go_enter Try.func40, Try.ntmps40
  go_wp2_with fail
  refine hC1.mono ?_
  rintro e w1 ⟨rfl, hb1⟩
  clear hC1
  go_wp2_with fail
  refine (hC2 _ hb1).mono ?_
  rintro e w2 ⟨rfl, hb2⟩
  have hB2 := below_after_of hb1 hb2
  clear hC2 hb1 hb2
  go_wp2_with fail
  refine (hOr _ _ (two_intsH rfl)).mono ?_
  rintro e w3 ⟨rfl, hw3⟩
  have hB3 : Below w.heap.size w w3 := by rw [hw3]; exact hB2.alloc hB2.size _
  clear hOr hw3 hB2
  by_cases hr : r = 0
  · subst hr
    obtain ⟨rfl, rfl⟩ := HR.out rfl
    clear HR HR2
    by_cases hlt : ln < tn
    · have hlt' : (ln : Int) < (tn : Int) := by omega
      have HQ : Hid (q = 10) := HF.out rfl rfl hlt
      clear HF HG hE
      go_wp2
      go_ret
      exact ⟨ret_int HQ.out.symm, hB3⟩
    · have hlt' : ¬ (ln : Int) < (tn : Int) := by omega
      have HQ : Hid (q = if eb = true then 0 else 9) := HG.out rfl rfl hlt
      have hk : tn ≤ ln := by omega
      have hk2 : (tn : Int) ≤ (c' : Int) := by omega
      clear HF HG hlt
      go_wp2_with fail
      refine (hE _ hB3 hk _).mono ?_
      rintro e w4 ⟨rfl, hb4⟩
      have hB4 := below_after_of hB3 hb4
      clear hE hb4 hB3
      cases eb
      · go_wp2
        go_ret
        exact ⟨ret_int HQ.out.symm, hB4⟩
      · go_wp2
        go_ret
        exact ⟨ret_int HQ.out.symm, hB4⟩
  · have hr1 : (r != 0) = true := by simpa using hr
    have HQ : Hid (q = r) := HR2.out hr
    clear HR HR2 HF HG hE hr
    go_wp2
    go_ret
    exact ⟨ret_int HQ.out.symm, hB3⟩
set_option maxRecDepth 100000 in
set_option maxHeartbeats 4000000 in
theorem specAudit_core (b off c b' off' c' n m : Nat) (t l : Hdl) (w : World) (HT : Hid (n = t.length)) (hx : n ≤ 1048576) (hnm : n ≤ m) (hy : m ≤ 1048576) (hb : b < w.heap.size) (hb' : b' < w.heap.size) (hc : ∀ j, j < n → HdS w b (off + j * 5) (hAt t j)) (hc' : ∀ j, j < n → HdS w b' (off' + j * 5) (hAt l j)) (HM : Hid (m = l.length))
    (hC1 : Calls Try.prog 80 #[.slice (some ⟨b, off, none⟩) n c] w fun e w' => e = .returned (.int .i64 0) ∧ Below w.heap.size w w') (hC2 : ∀ w', Below w.heap.size w w' → Calls Try.prog 80 #[.slice (some ⟨b', off', none⟩) m c'] w' fun e w'' => e = .returned (.int .i64 0) ∧ Below w'.heap.size w' w'') :
    Calls Try.prog 38 #[.slice (some ⟨b, off, none⟩) n c, .slice (some ⟨b', off', none⟩) m c'] w fun e w' => e = .returned (.int .i64 (if eqH (l.take n) t = true then 0 else 9)) ∧ Below w.heap.size w w' := by
  have HLT : Hid ((l.take n).length = n) := (by rw [List.length_take, ← HM.out]; omega : (l.take n).length = n)
  have hm1 : ¬ (m : Int) < (n : Int) := by omega
  obtain ⟨q, hq⟩ : ∃ q : Int, q = if eqH (l.take n) t = true then 0 else 9 := ⟨_, rfl⟩
  have HQE : Hid (q = if eqH (l.take n) t = true then 0 else 9) := hq
  rw [← hq]
  clear hq
  go_enter Try.func38, Try.ntmps38
  go_wp2_with fail
  refine hC1.mono ?_
  rintro e w1 ⟨rfl, hb1⟩
  clear hC1
  go_wp2_with fail
  refine (hC2 _ hb1).mono ?_
  rintro e w3 ⟨rfl, hb3⟩
  have hB3 := below_after_of hb1 hb3
  clear hC2 hb1 hb3
  go_wp2
  go_loopw [7] (fun i wr => ∃ k : Nat, k ≤ n ∧ i = .int .i64 k ∧ Hid (Below w.heap.size w wr) ∧ Hid (∀ j, j < k → hdQ (hAt l j) (hAt t j) = true)) (fun i _ => n - (intOf i).toNat)
  case atStart => exact ⟨0, Nat.zero_le _, rfl, hB3, fun j hj => by omega⟩
  case round =>
    obtain ⟨k, hk, rfl, hB, HA⟩ := hrel
    by_cases hkn : k < n
    · have hki : (k : Int) < (n : Int) := by omega
      have hkm : (k : Int) < (m : Int) := by omega
      obtain ⟨d0, d1, d2, d3, d4⟩ := (hc k hkn).below hB.out hb
      obtain ⟨d0', d1', d2', d3', d4'⟩ := (hc' k hkn).below hB.out hb'
      have hE := hd_neqS (hAt l k) (hAt t k)
      have HNO : Hid (hdQ (hAt l k) (hAt t k) = false → eqH (l.take n) t = false) := fun h => eqH_no (k := k) (by rw [HLT.out]; exact hkn) (by rw [hAt_take hkn]; exact h)
      have HYE : Hid (hdQ (hAt l k) (hAt t k) = true → ∀ j, j < k + 1 → hdQ (hAt l j) (hAt t j) = true) := (fun h j hj => by
        by_cases e : j = k
        · subst e; exact h
        · exact HA.out j (by omega) : hdQ (hAt l k) (hAt t k) = true → ∀ j, j < k + 1 → hdQ (hAt l j) (hAt t j) = true)
      generalize hdQ (hAt l k) (hAt t k) = rb at *
      generalize (hAt l k).e = x0 at *
      generalize (hAt l k).p = x1 at *
      generalize (hAt l k).o = x2 at *
      generalize (hAt l k).n = x3 at *
      generalize (hAt l k).v = x4 at *
      generalize (hAt t k).e = y0 at *
      generalize (hAt t k).p = y1 at *
      generalize (hAt t k).o = y2 at *
      generalize (hAt t k).n = y3 at *
      generalize (hAt t k).v = y4 at *
      clear hc hc'
      cases rb
      · have HQ : Hid (eqH (l.take n) t = false) := HNO.out rfl
        clear HNO HYE
        go_wp2
        go_quiet (fail)
        go_wp2
        go_ret
        exact ⟨ret_int (by rw [HQE.out, HQ.out]; rfl), below_drewN hB.out _⟩
      · have HQ : Hid (∀ j, j < k + 1 → hdQ (hAt l j) (hAt t j) = true) := HYE.out rfl
        clear HNO HYE
        go_wp2
        go_quiet (fail)
        go_wp2
        go_roundw
        case rel => exact ⟨k + 1, by omega, by go_num, below_drewN hB.out _, HQ⟩
        case measure => simp [intOf]; omega
    · have hkn : k = n := by omega
      subst hkn
      have HQ : Hid (eqH (l.take k) t = true) := eqH_yes (by rw [HLT.out, HT.out]) (fun j hj => by rw [HLT.out] at hj; rw [hAt_take hj]; exact HA.out j hj)
      clear hc hc'
      go_wp2
      go_ret
      exact ⟨ret_int (by rw [HQE.out, HQ.out]; rfl), hB.out⟩
set_option maxRecDepth 100000 in
set_option maxHeartbeats 2000000 in
theorem specAuditChain_any (v u : Value) (t l : Hdl) (w : World) (hv : Hds w v t) (hu : Hds w u l) (hx : t.length ≤ 1048576) (hy : l.length ≤ 1048576) :
    Calls Try.prog 38 #[v, u] w fun e w' => e = .returned (.int .i64 (auC t l)) ∧ Below w.heap.size w w' := by
  have hC1 := l10Chain_any v t w hv (by omega)
  have hC2 := fun w' h => l10Chain_any u l w' (hu.below (w' := w') h) (by omega)
  obtain ⟨a, c, rfl⟩ := hv.shape
  obtain ⟨a', c', rfl⟩ := hu.shape
  by_cases h1 : chF t = 0
  · rw [h1] at hC1
    by_cases h2 : chF l = 0
    · rw [h2] at hC2
      by_cases h3 : l.length < t.length
      · rw [auC_few h1 h2 h3]
        have h3' : (l.length : Int) < (t.length : Int) := by omega
        generalize t.length = tn at *
        generalize l.length = ln at *
        clear hv hu h1 h2 h3
        go_enter Try.func38, Try.ntmps38
        go_wp2_with fail
        refine hC1.mono ?_
        rintro e w1 ⟨rfl, hb1⟩
        clear hC1
        go_wp2_with fail
        refine (hC2 _ hb1).mono ?_
        rintro e w3 ⟨rfl, hb3⟩
        have hB3 := below_after_of hb1 hb3
        clear hC2 hb1 hb3
        go_wp2
        go_ret
        exact ⟨rfl, hB3⟩
      · rw [auC_eq h1 h2 h3]
        by_cases h0 : 0 < t.length
        · obtain ⟨-, b, off, rfl, hb, hc⟩ := hv.at h0
          obtain ⟨-, b', off', rfl, hb', hc'⟩ := hu.at (by omega)
          exact specAudit_core b off c b' off' c' t.length l.length t l w rfl hx (by omega) hy hb hb' hc (fun j hj => hc' j (by omega)) rfl hC1 hC2
        · have e1 : t = [] := List.eq_nil_of_length_eq_zero (by omega)
          subst e1
          have e2 : eqH (l.take ([] : Hdl).length) [] = true := by rw [List.length_nil, List.take_zero]; rfl
          rw [e2]
          simp only [List.length_nil] at *
          have h3' : ¬ (l.length : Int) < 0 := by omega
          generalize l.length = ln at *
          clear hv hu h0 h1 h2 h3 e2
          go_enter Try.func38, Try.ntmps38
          go_wp2_with fail
          refine hC1.mono ?_
          rintro e w1 ⟨rfl, hb1⟩
          clear hC1
          go_wp2_with fail
          refine (hC2 _ hb1).mono ?_
          rintro e w3 ⟨rfl, hb3⟩
          have hB3 := below_after_of hb1 hb3
          clear hC2 hb1 hb3
          go_wp2
          refine wp_loop_rounds 1 ?_; rw [rounds_succ]
          go_wp2
          go_ret
          exact ⟨rfl, hB3⟩
    · rw [auC_l h1 h2]
      have h4 : (chF l != 0) = true := by simpa using h2
      generalize chF l = cl at *
      generalize t.length = tn at *
      generalize l.length = ln at *
      clear hv hu h1 h2
      go_enter Try.func38, Try.ntmps38
      go_wp2_with fail
      refine hC1.mono ?_
      rintro e w1 ⟨rfl, hb1⟩
      clear hC1
      go_wp2_with fail
      refine (hC2 _ hb1).mono ?_
      rintro e w3 ⟨rfl, hb3⟩
      have hB3 := below_after_of hb1 hb3
      clear hC2 hb1 hb3
      go_wp2
      go_ret
      exact ⟨rfl, hB3⟩
  · rw [auC_t h1]
    have h4 : (chF t != 0) = true := by simpa using h1
    generalize chF t = ct at *
    generalize t.length = tn at *
    generalize l.length = ln at *
    clear hv hu h1 hC2
    go_enter Try.func38, Try.ntmps38
    go_wp2_with fail
    refine hC1.mono ?_
    rintro e w1 ⟨rfl, hb1⟩
    clear hC1
    go_wp2
    go_ret
    exact ⟨rfl, hb1⟩
end U
end Go.Proofs.Ytcdodpcdennemaa
