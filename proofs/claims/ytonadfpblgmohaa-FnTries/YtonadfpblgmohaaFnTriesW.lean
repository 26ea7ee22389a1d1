/- The law on the new tree, walked: true, and nothing that was there has turned. -/
import Derived.Test.YtonadfpblgmohaaTr8
import Derived.Test.YtonadfpblgmohaaTr11
import Derived.Test.YtonadfpblgmohaaTrD
import Derived.Test.YtonadfpblgmohaaSlF
import Derived.Test.YtonadfpblgmohaaSl10
import Derived.Test.YtonadfpblgmohaaQuiet
import Derived.Test.YtonadfpblgmohaaPairs
import Derived.Test.YtonadfpblgmohaaHeldBy
import Derived.Deep.RegionLaw
import Derived.Deep.DeepCutAuto
namespace Go.Proofs.Ytonadfpblgmohaa
open Go.RowKit
namespace U
theorem fldI0 (x y : Int) (w : World) : (Instr.field 27 (.agg #[.int .i64 x, .int .i64 y]) 0).run Try.prog w = .ok (.int .i64 x) w := by kernel_rfl
theorem fldI1 (x y : Int) (w : World) : (Instr.field 27 (.agg #[.int .i64 x, .int .i64 y]) 1).run Try.prog w = .ok (.int .i64 y) w := by kernel_rfl
theorem fldS0 (x y z : Int) (w : World) : (Instr.field 34 (.agg #[.int .i64 x, .int .i64 y, .int .i64 z]) 0).run Try.prog w = .ok (.int .i64 x) w := by kernel_rfl
theorem fldS1 (x y z : Int) (w : World) : (Instr.field 34 (.agg #[.int .i64 x, .int .i64 y, .int .i64 z]) 1).run Try.prog w = .ok (.agg #[.int .i64 y, .int .i64 z]) w := by kernel_rfl
theorem fldB0 (c : Int) (a : Option Addr) (n k : Nat) (w : World) : (Instr.field 38 (.agg #[.int .i64 c, .slice a n k]) 0).run Try.prog w = .ok (.int .i64 c) w := by kernel_rfl
/-- Where both answer alike, and a key that there is is led to its slot. -/
theorem near_both (l : Prl) (key : Int) (hx : l.length ≤ 1048576) : ∃ oc ok ov, (oc = 0 → fsC l key = 0 → ok = key) ∧ (∀ u w, Prs w u l → Calls Try.prog 17 #[u, .int .i64 key] w fun e w' => SlAns w oc ok ov e w') ∧ (∀ u w, Prs w u l → Okv u → Calls Try.prog 16 #[u, .int .i64 key] w fun e w' => SlAns w oc ok ov e w') := by
  by_cases h0 : slF l = 0
  · rcases Bool.eq_false_or_eq_true (inB key 0 255) with hk | hk
    · by_cases hn : 0 < l.length
      · obtain ⟨t, ht⟩ := isTr_ex _ l (Nat.le_refl _) (slF_ok h0)
        refine ⟨0, _, _, fun _ hf => ?_, fun u w hu => specNearSlot_ok u l t key w hu h0 ht hn hk, fun u w hu ho => implNearSlot_ok u l t key w hu ho h0 ht hn hk⟩
        have h1 : thr l key = true := by
          unfold fsC at hf
          rw [if_pos h0] at hf
          rcases Bool.eq_false_or_eq_true (thr l key) with h | h
          · exact h
          · rw [h] at hf; simp at hf
        obtain ⟨p, hp, e⟩ := (thr_iff (slF_ok h0).ris key).1 h1
        have := ht.near p hp
        rw [e] at this
        rw [this, e]
      · have e : l = [] := List.eq_nil_of_length_eq_zero (by omega)
        subst e
        exact ⟨4, 0, 0, (fun h => by omega), fun u w hu => specNearSlot_none u key w hu (asC_ok h0 hk), fun u w hu ho => implNearSlot_none u key w hu ho hk⟩
    · have e := asC_key h0 hk
      exact ⟨3, 0, 0, (fun h => by omega), fun u w hu => by have := specNearSlot_no u l key w hu (by omega) (by rw [e]; decide); rw [e] at this; exact this, fun u w hu _ => implNearSlot_key u l key w hu h0 hk⟩
  · have e := asC_no (key := key) h0
    exact ⟨slF l, 0, 0, (fun h => absurd h h0), fun u w hu => by have := specNearSlot_no u l key w hu (by omega) (by rw [e]; exact h0); rw [e] at this; exact this, fun u w hu _ => implNearSlot_no u l key w hu (by omega) h0⟩
set_option maxRecDepth 100000 in
set_option maxHeartbeats 1000000 in
theorem implNodeBytes_noV (v : Value) (l : Prl) (w : World) (hv : Prs w v l) (hx : l.length ≤ 1099511627776) (h0 : slF l ≠ 0) :
    Calls Try.prog 21 #[v] w fun e w' => e = .returned (.agg #[.int .i64 (slF l), .slice none 0 0]) ∧ Below w.heap.size w w' := by
  have hF := fun w' h => implSlotsFault_any v l w' (hv.below h) hx
  obtain ⟨ad, c, rfl⟩ := hv.shape
  generalize slF l = f at *
  generalize l.length = n at *
  have hfn : (f != 0) = true := by simpa using h0
  clear hv h0
  go_enter Try.func21, Try.ntmps21
  go_wp2_with fail
  refine (hF _ (one_new _)).mono ?_
  rintro e w1 ⟨rfl, hb1⟩
  obtain ⟨g0, g1, f0, f1⟩ := two_cellsV ((hb1.block w.heap.size (by simp)).trans (heap_alloc_new w _))
  have hB1 := below_after hb1
  clear hF hb1
  go_wp2
  exact bodyPost_ret (v := .agg #[.int .i64 f, .slice none 0 0]) (by simp [results, Try.results21, go_sem, *]) rfl ⟨rfl, (hB1.setCell (by simp) _).setCell (by simp) _⟩
/-- Blocks of two and three cells, as they read from a world on. -/
structure B2 (W : World) (g : Nat) (x y : Int) : Prop where
  c : ∀ w', Below W.heap.size W w' → w'.cell? ⟨g, 0, none⟩ = some (.int .i64 x) ∧ w'.cell? ⟨g, 1, none⟩ = some (.int .i64 y)
structure B3 (W : World) (g : Nat) (x y z : Int) : Prop where
  c : ∀ w', Below W.heap.size W w' → w'.cell? ⟨g, 0, none⟩ = some (.int .i64 x) ∧ w'.cell? ⟨g, 1, none⟩ = some (.int .i64 y) ∧ w'.cell? ⟨g, 2, none⟩ = some (.int .i64 z)
theorem B2.below {W W' : World} {g : Nat} {x y : Int} (h : B2 W g x y) (hb : Below W.heap.size W W') : B2 W' g x y := ⟨fun w' h' => h.c w' (below_after_of hb h')⟩
theorem B3.below {W W' : World} {g : Nat} {x y z : Int} (h : B3 W g x y z) (hb : Below W.heap.size W W') : B3 W' g x y z := ⟨fun w' h' => h.c w' (below_after_of hb h')⟩
theorem B2.new (w : World) (x y : Int) (t : TypeId) : B2 (w.alloc (.cells #[.int .i64 x, .int .i64 y] t)) w.heap.size x y := ⟨fun w' h => by
  have := two_cellsV ((h.block w.heap.size (by simp)).trans (heap_alloc_new w (.cells #[.int .i64 x, .int .i64 y] t)))
  exact ⟨this.1, this.2.1⟩⟩
theorem B3.new (w : World) (x y z : Int) (t : TypeId) : B3 (w.alloc (.cells #[.int .i64 x, .int .i64 y, .int .i64 z] t)) w.heap.size x y z := ⟨fun w' h =>
  (blk3V ((h.block w.heap.size (by simp)).trans (heap_alloc_new w (.cells #[.int .i64 x, .int .i64 y, .int .i64 z] t)))).1⟩
set_option maxRecDepth 100000 in
set_option maxHeartbeats 16000000 in
theorem fnTries_small (cv : Value) (cs : List Int) (w : World) (h : Code w cv cs) (hob : cs ≠ [] → ∀ g, cv.ownBlock = some g → g < w.heap.size) :
    Calls Try.prog 3 #[cv] w fun e w' => e = .returned (.bool true) ∧ Below w.heap.size w w' := by
  obtain ⟨cva, cvc, rfl⟩ := h.1.shape
  have hbig : decide (1048576 < cs.length) = false := by simp; exact h.2.1
  have hlb := fun w => lwBig4 cva cs.length cvc w (by have := h.2.1; unfold maxLen; omega)
  rw [hbig] at hlb
  obtain ⟨cl, hcl⟩ : ∃ cl, cl = cs.length := ⟨_, rfl⟩
  rw [← hcl] at h hob hlb ⊢
  have HC : Hid (∀ w', Below w.heap.size w w' → Code w' (.slice cva cl cvc) cs) := fun w' hb => h.below hb
  have HOB : Hid (∀ w', Below w.heap.size w w' → cs ≠ [] → ∀ g, (Value.slice cva cl cvc).ownBlock = some g → g < w'.heap.size) := fun w' hb hz g e => Nat.lt_of_lt_of_le (hob hz g e) hb.size
  have hD := drawForksOf_any _ cs _ h hob
  clear hcl hbig h hob
  go_enter Try.func3, Try.ntmps3
  go_wp2_with fail
  refine (hlb _).mono ?_
  rintro e w0 ⟨rfl, h0w⟩
  rw [h0w]
  clear hlb h0w w0
  go_wp2_with fail
  refine hD.mono ?_
  rintro e w1 ⟨a1, c1, l, rfl, hl13, ho1, hb1⟩
  have P1 := own_prs ho1
  have K1 := own_okv ho1
  have HP1 : Hid (∀ w', Below w1.heap.size w1 w' → Prs w' (.slice a1 l.length c1) l) := fun w' h => P1.below h
  have HK1 : Hid (Okv (.slice a1 l.length c1)) := K1
  clear ho1 hD
  -- the forks and the fork bit
  obtain ⟨bc, bv, hFS, hFI⟩ := bothForkBit l (by omega)
  obtain ⟨fc, fv, HF, hOI⟩ : ∃ fc fv, ((slF l ≠ 0 ∧ fc = slF l) ∨ (slF l = 0 ∧ fc = 0 ∧ (fv = (l.length : Int) - 1 ∧ l.length ≠ 0) ∨ slF l = 0 ∧ fc = 0 ∧ fv = 0 ∧ l.length = 0)) ∧ (∀ u w, Prs w u l → Okv u → Calls Try.prog 13 #[u] w fun e w' => IntAns w fc fv e w') := by
    by_cases h0 : slF l = 0
    · obtain ⟨t, ht⟩ := isTr_ex _ l (Nat.le_refl _) (slF_ok h0)
      refine ⟨0, (t.forks : Int), ?_, fun u w hu ho => implForksOf_ok u l t w hu ho h0 ht⟩
      have := ht.forks
      by_cases hz : l.length = 0
      · exact Or.inr (Or.inr ⟨h0, rfl, by omega, hz⟩)
      · exact Or.inr (Or.inl ⟨h0, rfl, by omega, hz⟩)
    · exact ⟨slF l, 0, Or.inl ⟨h0, rfl⟩, fun u w hu _ => implForksOf_no u l w hu (by omega) h0⟩
  have hO1 := hOI _ _ P1 K1
  have hF1 := fun w' h => hFI _ w' (HP1.out w' h) K1
  have hFS1 := fun w' h => hFS _ w' (HP1.out w' h)
  have HF : Hid ((slF l ≠ 0 ∧ fc = slF l) ∨ (slF l = 0 ∧ fc = 0 ∧ (fv = (l.length : Int) - 1 ∧ l.length ≠ 0) ∨ slF l = 0 ∧ fc = 0 ∧ fv = 0 ∧ l.length = 0)) := HF
  clear hOI hFI hFS P1 K1
  obtain ⟨n, hn⟩ : ∃ n, n = l.length := ⟨_, rfl⟩
  have HN : Hid (n = l.length) := hn
  rw [← hn] at hO1 hF1 hFS1 HP1 HK1 ⊢
  clear hn
  go_wp2_with fail
  refine hO1.mono ?_
  rintro e w2 ⟨rfl, hb2⟩
  have hB2 : Below w1.heap.size w1 (w2.alloc (.cells #[.int .i64 fc, .int .i64 fv] 27)) := hb2.alloc hb2.size _
  have F2 := B2.new w2 fc fv 27
  clear hO1 hb2
  go_wp2_with fail
  refine (hF1 _ hB2).mono ?_
  rintro e w3 ⟨rfl, hb3⟩
  have hB3 := below_after_of hB2 (hb3.alloc hb3.size (.cells #[.int .i64 bc, .int .i64 bv] 27))
  have F3 := F2.below (hb3.alloc hb3.size (.cells #[.int .i64 bc, .int .i64 bv] 27))
  have G3 := B2.new w3 bc bv 27
  have hBW3 := below_after_of hb1 hB3
  clear hF1 hb3 F2 hB2
  go_wp2_with fail
  refine (dNearSlot_any _ cs _ (HC.out _ hBW3) (HOB.out _ hBW3)).mono ?_
  rintro e w4 ⟨a4, c4, l2, key, rfl, hl2, ho4, hb4⟩
  have hB4 := below_after_of hB3 hb4
  have F4 := F3.below hb4
  have G4 := G3.below hb4
  have hBW4 := below_after_of hBW3 hb4
  have P4 := own_prs ho4
  have K4 := own_okv ho4
  obtain ⟨nc, nk, nv, hnk, hNS, hNI⟩ := near_both l2 key (by omega)
  have hN4 := hNI _ _ P4 K4
  have HNK : Hid (nc = 0 → fsC l2 key = 0 → nk = key) := hnk
  have hNS4 := fun w' (h : Below w4.heap.size w4 w') => hNS _ w' (P4.below h)
  have hFD := fun w' (h : Below w4.heap.size w4 w') => implFindSlot_any _ l2 key w' (P4.below h) (by omega)
  clear hNS hNI P4 K4 ho4 hb4 F3 G3 hBW3 hB3 hnk HC HOB
  generalize fsC l2 key = sc at *
  generalize fsV l2 key = sv at *
  generalize l2.length = n2 at *
  go_wp2_with fail
  refine hN4.mono ?_
  rintro e w5 ⟨rfl, hb5⟩
  obtain ⟨W, hW⟩ : ∃ W, W = w5.alloc (.cells #[.int .i64 nc, .int .i64 nk, .int .i64 nv] 34) := ⟨_, rfl⟩
  have HW : Hid (w5.alloc (.cells #[.int .i64 nc, .int .i64 nk, .int .i64 nv] 34) = W) := hW.symm
  have hB5 : Below w4.heap.size w4 W := by rw [hW]; exact hb5.alloc hb5.size _
  have F5 := F4.below hB5
  have G5 := G4.below hB5
  have N5 : B3 W w5.heap.size nc nk nv := by rw [hW]; exact B3.new w5 nc nk nv _
  have hBW : Below w.heap.size w W := below_after_of hBW4 hB5
  have hB1W : Below w1.heap.size w1 W := below_after_of hB4 hB5
  clear hN4 hb5 F4 G4 hB4 hBW4 hW hb1
  go_wp2_with fail
  rw [HW.out]
  obtain ⟨n0, n1, n2'⟩ := N5.c W (Below.refl _ _)
  obtain ⟨g0, g1⟩ := G5.c W (Below.refl _ _)
  have q0 := After.cell n0
  have q1 := After.cell n1
  have q2 := After.cell n2'
  have q3 := After.cell g0
  have q4 := After.cell g1
  have hnn : ∀ i : Int, (i != i) = false := by simp
  have kI0 := fldI0
  have kI1 := fldI1
  have kS0 := fldS0
  have kS1 := fldS1
  have hne := After.ne W
  refine wp_region_after (by kernel_rfl) (by kernel_rfl) ?_
  repeat (first | go_big_quiet_skip | (go_big_quiet_want; go_big_quiet_op; first | go_big_quiet_on | go_big_quiet_call (first
    | (go_at_call 17; refine (hNS4 _ (below_after_of hB5 (After.b _))).mono ?_; rintro e wq ⟨rfl, hbq⟩; exact ⟨rfl, after_mk (below_after_of (After.b _) hbq)⟩)
    | (go_at_call 18; refine (hFS1 _ (below_after_of hB1W (After.b _))).mono ?_; rintro e wq ⟨rfl, hbq⟩; exact ⟨rfl, after_mk (below_after_of (After.b _) hbq)⟩))))
  refine wpQuiet_nil ?_
  rintro _ ⟨n8, rfl⟩
  have F8 := F5.below n8.b
  have N8 := N5.below n8.b
  have hB8 := below_after_of hBW n8.b
  have hB18 := below_after_of hB1W n8.b
  have hB48 := below_after_of hB5 n8.b
  generalize n8.w = w8 at *
  clear q0 q1 q2 q3 q4 g0 g1 n0 n1 n2' hne n8 F5 N5 G5 hBW hB1W hB5 hNS4 hFS1
  go_upto_region 10 with fail
  go_cut [75] (fun s wx => s = .bool false ∧ Hid (Below w8.heap.size w8 wx))
  case first =>
    obtain ⟨m0, m1, m2⟩ := N8.c w8 (Below.refl _ _)
    by_cases h1 : nc = 0
    · have HX : Hid (sc = 0 → nk = key) := HNK.out h1
      subst h1
      have FD := hFD w8 hB48
      by_cases h2 : sc = 0
      · have hk : nk = key := HX.out h2
        subst h2
        have hk' : (nk != key) = false := by simpa using hk
        clear hk HX
        go_wp2_with fail
        refine FD.mono ?_
        rintro e w9 ⟨rfl, hb9⟩
        obtain ⟨m0, m1, m2⟩ := N8.c w9 hb9
        go_wp2
        go_meet
        case rel => exact ⟨rfl, hb9⟩
      · have h2' : (sc == 0) = false := by simpa using h2
        clear HX
        go_wp2_with fail
        refine FD.mono ?_
        rintro e w9 ⟨rfl, hb9⟩
        obtain ⟨m0, m1, m2⟩ := N8.c w9 hb9
        go_wp2
        go_meet
        case rel => exact ⟨rfl, hb9⟩
    · have h1' : (nc == 0) = false := by simpa using h1
      go_wp2
      go_meet
      case rel => exact ⟨rfl, Below.refl _ _⟩
  case rest =>
    obtain ⟨rfl, hbc⟩ := hcut
    have Fc := F8.below hbc.out
    have hBc := below_after_of hB8 hbc.out
    have hB1c := below_after_of hB18 hbc.out
    obtain ⟨f0, f1⟩ := Fc.c wc (Below.refl _ _)
    clear F8 N8 hB8 hB18 hB48 hbc hFD HNK
    rcases HF.out with ⟨h0, e0⟩ | hok
    · have HE : Hid (fc = slF l) := e0
      have hS1 := fun w' h => specForksOf_no _ l w' (HP1.out w' h) (by omega) h0
      have hN1 := fun w' h => implNodeBytes_noV _ l w' (HP1.out w' h) (by omega) h0
      rw [← e0] at hS1 hN1 h0
      have h0' : (fc != 0) = true := by simpa using h0
      have hee : ∀ i : Int, (i == i) = true := by simp
      have q0 := After.cell f0
      have kB0 := fldB0
      have hne := After.ne wc
      clear h0 e0
      go_wp2_with fail
      refine wp_region_after (by kernel_rfl) (by kernel_rfl) ?_
      repeat (first | go_big_quiet_skip | (go_big_quiet_want; go_big_quiet_op; first | go_big_quiet_on | go_big_quiet_call (first
        | (go_at_call 20; refine (hS1 _ (below_after_of hB1c (After.b _))).mono ?_; rintro e wq ⟨rfl, hbq⟩; exact ⟨rfl, after_mk (below_after_of (After.b _) hbq)⟩)
        | (go_at_call 21; refine (hN1 _ (below_after_of hB1c (After.b _))).mono ?_; rintro e wq ⟨rfl, hbq⟩; exact ⟨rfl, after_mk (below_after_of (After.b _) hbq)⟩))))
      refine wpQuiet_nil ?_
      rintro _ ⟨n13, rfl⟩
      have hB13 := below_after_of hBc n13.b
      generalize n13.w = w13 at *
      clear q0 f0 f1 hne n13 Fc hBc hB1c hS1 hN1
      go_wp2
      go_ret
      exact ⟨rfl, hB13⟩
    · have h0 : slF l = 0 := by rcases hok with h | h <;> exact h.1
      have e0 : fc = 0 := by rcases hok with h | h <;> exact h.2.1
      have HV : Hid ((fv = (l.length : Int) - 1 ∧ l.length ≠ 0) ∨ fv = 0 ∧ l.length = 0) := (by rcases hok with h | h; exact Or.inl h.2.2; exact Or.inr h.2.2 : (fv = (l.length : Int) - 1 ∧ l.length ≠ 0) ∨ fv = 0 ∧ l.length = 0)
      subst e0
      have hs := slF_ok h0
      obtain ⟨t, ht⟩ := isTr_ex _ l (Nat.le_refl _) hs
      have hR1 := implNewRoot_ok _ l t _ (HP1.out wc hB1c) HK1.out h0 ht
      have hRS := fun w' h => specNewRoot_ok _ l t w' (HP1.out w' h) h0 ht
      have hNB := fun w' h => implNodeBytes_ok _ l t w' (HP1.out w' h) HK1.out h0 ht
      have hSO := fun u w' hu => Tr.sumOf (ht.ok hs) u w' hu
      have HNR : Hid (∀ k w', k < l.length → Below w1.heap.size w1 w' → Calls Try.prog 16 #[.slice a1 n c1, .int .i64 (pAt l k).1] w' fun e w'' => SlAns w' 0 (pAt l k).1 (pAt l k).2 e w'') := fun k w' hk h => by
        have hb := (hs.at hk).1
        have hh := implNearSlot_ok _ l t (pAt l k).1 w' (HP1.out w' h) HK1.out h0 ht (by omega) (inB_t hb.1 hb.2)
        rw [ht.near _ (pAt_mem hk)] at hh
        exact hh
      generalize t.sum = z at *
      generalize t.bts = ys at *
      clear ht h0 hs hok HF HK1
      go_wp2_with fail
      refine hR1.mono ?_
      rintro e w14 ⟨rfl, hb14⟩
      obtain ⟨W, hW⟩ : ∃ W, W = w14.alloc (.cells #[.int .i64 0, .int .i64 z] 27) := ⟨_, rfl⟩
      have HW2 : Hid (w14.alloc (.cells #[.int .i64 0, .int .i64 z] 27) = W) := hW.symm
      have hBW : Hid (Below wc.heap.size wc W) := (by rw [hW]; exact hb14.alloc hb14.size _ : Below wc.heap.size wc W)
      have FW : Hid (B2 W w2.heap.size 0 fv) := Fc.below hBW.out
      have RW : Hid (B2 W w14.heap.size 0 z) := (by rw [hW]; exact B2.new w14 0 z _ : B2 W w14.heap.size 0 z)
      have hBF : Hid (Below w.heap.size w W) := below_after_of hBc hBW.out
      have hB1F : Hid (Below w1.heap.size w1 W) := below_after_of hB1c hBW.out
      clear hR1 hb14 hW Fc hBc hB1c hBW f0 f1
      go_wp2
      rw [HW2.out]
      go_loopw [10] (fun i wr => ∃ k : Nat, k ≤ n ∧ i = .int .i64 k ∧ Hid (Below W.heap.size W wr)) (fun i _ => n - (intOf i).toNat)
      case atStart => exact ⟨0, Nat.zero_le _, rfl, Below.refl _ _⟩
      case round =>
        obtain ⟨k, hk, rfl, hBr⟩ := hrel
        have hB1r := below_after_of hB1F.out hBr.out
        by_cases hkn : k < n
        · have hki : (k : Int) < (n : Int) := by omega
          have hkl : k < l.length := by have := HN.out; omega
          have hnr := fun w' h => HNR.out k w' hkl (below_after_of hB1r h)
          have hP := HP1.out wr hB1r
          obtain ⟨-, bk, off, rfl, hbk, hc⟩ := hP.at (by omega)
          obtain ⟨ck, ck2⟩ := hc k hkl
          obtain ⟨xk, hxk⟩ : ∃ x, x = (pAt l k).1 := ⟨_, rfl⟩
          obtain ⟨yk, hyk⟩ : ∃ x, x = (pAt l k).2 := ⟨_, rfl⟩
          rw [← hxk] at hnr ck
          rw [← hyk] at hnr ck2
          clear hxk hyk hc hP hRS hNB hSO HNR
          have q0 := After.cell ck
          have q1 := After.cell ck2
          have kS1' := fldS1
          have hnn' : ∀ i : Int, (i != i) = false := by simp
          have hne := After.ne wr
          clear ck ck2
          go_wp2_with fail
          refine wp_region_after (by kernel_rfl) (by kernel_rfl) ?_
          repeat (first | go_big_quiet_skip | (go_big_quiet_want; go_big_quiet_op; first | go_big_quiet_on | go_big_quiet_call (first
            | (go_at_call 16; refine (hnr _ (After.b _)).mono ?_; rintro e wq ⟨rfl, hbq⟩; exact ⟨rfl, after_mk (below_after_of (After.b _) hbq)⟩))))
          refine wpQuiet_nil ?_
          rintro _ ⟨n18, rfl⟩
          have hB18' := below_after_of hBr.out n18.b
          generalize n18.w = w18 at *
          clear q0 q1 hne n18 hnr
          go_wp2
          go_roundw
          case rel => exact ⟨k + 1, by omega, by go_num, hB18'⟩
          case measure => simp [intOf]; omega
        · have hkn : k = n := by omega
          subst hkn
          have HCELL : Hid (∀ w', Below wr.heap.size wr w' → w'.cell? ⟨w2.heap.size, 1, none⟩ = some (.int .i64 fv) ∧ w'.cell? ⟨w14.heap.size, 0, none⟩ = some (.int .i64 0) ∧ w'.cell? ⟨w14.heap.size, 1, none⟩ = some (.int .i64 z)) := fun w' h => ⟨(FW.out.c w' (below_after_of hBr.out h)).2, (RW.out.c w' (below_after_of hBr.out h)).1, (RW.out.c w' (below_after_of hBr.out h)).2⟩
          obtain ⟨f1, r0, r1⟩ := HCELL.out wr (Below.refl _ _)
          have hBE : Hid (Below w.heap.size w wr) := below_after_of hBF.out hBr.out
          have hbr := Below.refl wr.heap.size wr
          have hee : ∀ i : Int, (i == i) = true := by simp
          have kI1' := fldI1
          clear HNR FW RW HW2
          rcases HV.out with ⟨ev, hl0⟩ | ⟨ev, hl0⟩
          · have hn0 : ((k : Int) == 0) = false := by have := HN.out; simp; omega
            have hfv : wrap64 ((k : Int) - 1) = fv := by have := HN.out; rw [ev, ← HN.out]; simp only [wrap64]; omega
            have hfv2 : (k : Int) - 1 = fv := by have := HN.out; rw [ev, ← HN.out]
            have hfv3 : wrap64 fv = fv := by have := HN.out; rw [ev, ← HN.out]; simp only [wrap64]; omega
            have hfv4 : IntKind.i64.wrap fv = fv := by have := HN.out; rw [ev, ← HN.out, IntKind.wrap_i64]; omega
            clear hl0 HV ev
            have q1 := After.cell f1
            have q2 := After.cell r0
            have q3 := After.cell r1
            have hne := After.ne wr
            clear HCELL f1 r0 r1 hbr
            go_wp2_with fail
            refine wp_region_held_drew (S := fun w' => ∃ n : After wr, w' = n.w) (by kernel_rfl) (after_mk (Below.refl _ _).drew) (fun hHeld => ?_)
            have hcur : Below wr.heap.size wr wr.drew := (Below.refl _ _).drew
            refine h_take (i := 0) (d := (some 114)) (v := ?va1) (by rfl) (by kernel_rfl) (by kernel_rfl) (by kernel_rfl) (fun _ _ _ h => h) (by rfl) ?hya1 hHeld ?resta1
            case hya1 =>
              intro o ho
              simp only [List.getElem?_toArray, List.getElem?_cons_zero, Option.some.injEq] at ho
              subst ho
              rintro _ ⟨nw, rfl⟩
              first | (go_simp; done) | (go_simp; with_reducible rfl)
            try simp only [Act.put, List.setIfInBounds_toArray, List.set_cons_zero, List.set_cons_succ]
            as_aux_lemma =>
             refine h_take (i := 1) (d := (some 115)) (v := ?va2) (by rfl) (by kernel_rfl) (by kernel_rfl) (by kernel_rfl) (fun _ _ _ h => h) (by rfl) ?hya2 hHeld ?resta2
             case hya2 =>
               intro o ho
               simp only [List.getElem?_toArray, List.getElem?_cons_succ, List.getElem?_cons_zero, Option.some.injEq] at ho
               subst ho
               rintro _ ⟨nw, rfl⟩
               first | (go_simp; done) | (go_simp; with_reducible rfl)
             try simp only [Act.put, List.setIfInBounds_toArray, List.set_cons_zero, List.set_cons_succ]
             as_aux_lemma =>
              refine h_take (i := 2) (d := (some 116)) (v := ?va3) (by rfl) (by kernel_rfl) (by kernel_rfl) (by kernel_rfl) (fun _ _ _ h => h) (by rfl) ?hya3 hHeld ?resta3
              case hya3 =>
                intro o ho
                simp only [List.getElem?_toArray, List.getElem?_cons_succ, List.getElem?_cons_zero, Option.some.injEq] at ho
                subst ho
                rintro _ ⟨nw, rfl⟩
                first | (go_simp; done) | (go_simp; with_reducible rfl)
              try simp only [Act.put, List.setIfInBounds_toArray, List.set_cons_zero, List.set_cons_succ]
              as_aux_lemma =>
               refine h_take (i := 3) (d := (some 117)) (v := ?va4) (by rfl) (by kernel_rfl) (by kernel_rfl) (by kernel_rfl) (fun _ _ _ h => h) (by rfl) ?hya4 hHeld ?resta4
               case hya4 =>
                 intro o ho
                 simp only [List.getElem?_toArray, List.getElem?_cons_succ, List.getElem?_cons_zero, Option.some.injEq] at ho
                 subst ho
                 rintro _ ⟨nw, rfl⟩
                 first | (go_simp; done) | (go_simp; with_reducible rfl)
               try simp only [Act.put, List.setIfInBounds_toArray, List.set_cons_zero, List.set_cons_succ]
               as_aux_lemma =>
                refine h_skip (i := 4) (d := (some 118)) (by rfl) (by kernel_rfl) (by kernel_rfl) (by kernel_rfl) (fun _ _ _ h => h) (by rfl) hHeld ?_
                try simp only [Act.put, List.setIfInBounds_toArray, List.set_cons_zero, List.set_cons_succ]
                as_aux_lemma =>
                 refine h_skip (i := 5) (d := (some 119)) (by rfl) (by kernel_rfl) (by kernel_rfl) (by kernel_rfl) (fun _ _ _ h => h) (by rfl) hHeld ?_
                 try simp only [Act.put, List.setIfInBounds_toArray, List.set_cons_zero, List.set_cons_succ]
                 as_aux_lemma =>
                  refine h_skip (i := 6) (d := (some 120)) (by rfl) (by kernel_rfl) (by kernel_rfl) (by kernel_rfl) (fun _ _ _ h => h) (by rfl) hHeld ?_
                  try simp only [Act.put, List.setIfInBounds_toArray, List.set_cons_zero, List.set_cons_succ]
                  as_aux_lemma =>
                   refine h_take (i := 7) (d := (some 121)) (v := ?va5) (by rfl) (by kernel_rfl) (by kernel_rfl) (by kernel_rfl) (fun _ _ _ h => h) (by rfl) ?hya5 hHeld ?resta5
                   case hya5 =>
                     intro o ho
                     simp only [List.getElem?_toArray, List.getElem?_cons_succ, List.getElem?_cons_zero, Option.some.injEq] at ho
                     subst ho
                     rintro _ ⟨nw, rfl⟩
                     first | (go_simp; done) | (go_simp; with_reducible rfl)
                   try simp only [Act.put, List.setIfInBounds_toArray, List.set_cons_zero, List.set_cons_succ]
                   as_aux_lemma =>
                    refine h_take (i := 8) (d := (some 122)) (v := ?va6) (by rfl) (by kernel_rfl) (by kernel_rfl) (by kernel_rfl) (fun _ _ _ h => h) (by rfl) ?hya6 hHeld ?resta6
                    case hya6 =>
                      intro o ho
                      simp only [List.getElem?_toArray, List.getElem?_cons_succ, List.getElem?_cons_zero, Option.some.injEq] at ho
                      subst ho
                      rintro _ ⟨nw, rfl⟩
                      first | (go_simp; done) | (go_simp; with_reducible rfl)
                    try simp only [Act.put, List.setIfInBounds_toArray, List.set_cons_zero, List.set_cons_succ]
                    as_aux_lemma =>
                     refine h_take (i := 9) (d := (some 123)) (v := ?va7) (by rfl) (by kernel_rfl) (by kernel_rfl) (by kernel_rfl) (fun _ _ _ h => h) (by rfl) ?hya7 hHeld ?resta7
                     case hya7 =>
                       intro o ho
                       simp only [List.getElem?_toArray, List.getElem?_cons_succ, List.getElem?_cons_zero, Option.some.injEq] at ho
                       subst ho
                       rintro _ ⟨nw, rfl⟩
                       first | (go_simp; done) | (go_simp; with_reducible rfl)
                     try simp only [Act.put, List.setIfInBounds_toArray, List.set_cons_zero, List.set_cons_succ]
                     as_aux_lemma =>
                      refine h_take (i := 10) (d := (some 124)) (v := ?va8) (by rfl) (by kernel_rfl) (by kernel_rfl) (by kernel_rfl) (fun _ _ _ h => h) (by rfl) ?hya8 hHeld ?resta8
                      case hya8 =>
                        intro o ho
                        simp only [List.getElem?_toArray, List.getElem?_cons_succ, List.getElem?_cons_zero, Option.some.injEq] at ho
                        subst ho
                        rintro _ ⟨nw, rfl⟩
                        first | (go_simp; done) | (go_simp; with_reducible rfl)
                      try simp only [Act.put, List.setIfInBounds_toArray, List.set_cons_zero, List.set_cons_succ]
                      as_aux_lemma =>
                       refine h_take (i := 11) (d := (some 125)) (v := ?va9) (by rfl) (by kernel_rfl) (by kernel_rfl) (by kernel_rfl) (fun _ _ _ h => h) (by rfl) ?hya9 hHeld ?resta9
                       case hya9 =>
                         intro o ho
                         simp only [List.getElem?_toArray, List.getElem?_cons_succ, List.getElem?_cons_zero, Option.some.injEq] at ho
                         subst ho
                         rintro _ ⟨nw, rfl⟩
                         first | (go_simp; done) | (go_simp; with_reducible rfl)
                       try simp only [Act.put, List.setIfInBounds_toArray, List.set_cons_zero, List.set_cons_succ]
                       as_aux_lemma =>
                        refine h_take (i := 12) (d := (some 126)) (v := ?va10) (by rfl) (by kernel_rfl) (by kernel_rfl) (by kernel_rfl) (fun _ _ _ h => h) (by rfl) ?hya10 hHeld ?resta10
                        case hya10 =>
                          intro o ho
                          simp only [List.getElem?_toArray, List.getElem?_cons_succ, List.getElem?_cons_zero, Option.some.injEq] at ho
                          subst ho
                          rintro _ ⟨nw, rfl⟩
                          first | (go_simp; done) | (go_simp; with_reducible rfl)
                        try simp only [Act.put, List.setIfInBounds_toArray, List.set_cons_zero, List.set_cons_succ]
                        as_aux_lemma =>
                         refine h_take (i := 13) (d := (some 127)) (v := ?va11) (by rfl) (by kernel_rfl) (by kernel_rfl) (by kernel_rfl) (fun _ _ _ h => h) (by rfl) ?hya11 hHeld ?resta11
                         case hya11 =>
                           intro o ho
                           simp only [List.getElem?_toArray, List.getElem?_cons_succ, List.getElem?_cons_zero, Option.some.injEq] at ho
                           subst ho
                           rintro _ ⟨nw, rfl⟩
                           first | (go_simp; done) | (go_simp; with_reducible rfl)
                         try simp only [Act.put, List.setIfInBounds_toArray, List.set_cons_zero, List.set_cons_succ]
                         as_aux_lemma =>
                          refine h_take (i := 14) (d := (some 128)) (v := ?va12) (by rfl) (by kernel_rfl) (by kernel_rfl) (by kernel_rfl) (fun _ _ _ h => h) (by rfl) ?hya12 hHeld ?resta12
                          case hya12 =>
                            intro o ho
                            simp only [List.getElem?_toArray, List.getElem?_cons_succ, List.getElem?_cons_zero, Option.some.injEq] at ho
                            subst ho
                            rintro _ ⟨nw, rfl⟩
                            first | (go_simp; done) | (go_simp; with_reducible rfl)
                          try simp only [Act.put, List.setIfInBounds_toArray, List.set_cons_zero, List.set_cons_succ]
                          as_aux_lemma =>
                           refine h_take (i := 15) (d := (some 129)) (v := ?va13) (by rfl) (by kernel_rfl) (by kernel_rfl) (by kernel_rfl) (fun _ _ _ h => h) (by rfl) ?hya13 hHeld ?resta13
                           case hya13 =>
                             intro o ho
                             simp only [List.getElem?_toArray, List.getElem?_cons_succ, List.getElem?_cons_zero, Option.some.injEq] at ho
                             subst ho
                             rintro _ ⟨nw, rfl⟩
                             first | (go_simp; done) | (go_simp; with_reducible rfl)
                           try simp only [Act.put, List.setIfInBounds_toArray, List.set_cons_zero, List.set_cons_succ]
                           as_aux_lemma =>
                            refine h_take (i := 16) (d := (some 130)) (v := ?va14) (by rfl) (by kernel_rfl) (by kernel_rfl) (by kernel_rfl) (fun _ _ _ h => h) (by rfl) ?hya14 hHeld ?resta14
                            case hya14 =>
                              intro o ho
                              simp only [List.getElem?_toArray, List.getElem?_cons_succ, List.getElem?_cons_zero, Option.some.injEq] at ho
                              subst ho
                              rintro _ ⟨nw, rfl⟩
                              first | (go_simp; done) | (go_simp; with_reducible rfl)
                            try simp only [Act.put, List.setIfInBounds_toArray, List.set_cons_zero, List.set_cons_succ]
                            as_aux_lemma =>
                             refine h_take (i := 17) (d := (some 131)) (v := ?va15) (by rfl) (by kernel_rfl) (by kernel_rfl) (by kernel_rfl) (fun _ _ _ h => h) (by rfl) ?hya15 hHeld ?resta15
                             case hya15 =>
                               intro o ho
                               simp only [List.getElem?_toArray, List.getElem?_cons_succ, List.getElem?_cons_zero, Option.some.injEq] at ho
                               subst ho
                               rintro _ ⟨nw, rfl⟩
                               first | (go_simp; done) | (go_simp; with_reducible rfl)
                             try simp only [Act.put, List.setIfInBounds_toArray, List.set_cons_zero, List.set_cons_succ]
                             as_aux_lemma =>
                              refine h_take (i := 18) (d := (some 132)) (v := ?va16) (by rfl) (by kernel_rfl) (by kernel_rfl) (by kernel_rfl) (fun _ _ _ h => h) (by rfl) ?hya16 hHeld ?resta16
                              case hya16 =>
                                intro o ho
                                simp only [List.getElem?_toArray, List.getElem?_cons_succ, List.getElem?_cons_zero, Option.some.injEq] at ho
                                subst ho
                                rintro _ ⟨nw, rfl⟩
                                first | (go_simp; done) | (go_simp; with_reducible rfl)
                              try simp only [Act.put, List.setIfInBounds_toArray, List.set_cons_zero, List.set_cons_succ]
                              as_aux_lemma =>
                               refine h_take (i := 19) (d := (some 133)) (v := ?va17) (by rfl) (by kernel_rfl) (by kernel_rfl) (by kernel_rfl) (fun _ _ _ h => h) (by rfl) ?hya17 hHeld ?resta17
                               case hya17 =>
                                 intro o ho
                                 simp only [List.getElem?_toArray, List.getElem?_cons_succ, List.getElem?_cons_zero, Option.some.injEq] at ho
                                 subst ho
                                 rintro _ ⟨nw, rfl⟩
                                 first | (go_simp; done) | (go_simp; with_reducible rfl)
                               try simp only [Act.put, List.setIfInBounds_toArray, List.set_cons_zero, List.set_cons_succ]
                               as_aux_lemma =>
                                refine h_take (i := 20) (d := (some 134)) (v := ?va18) (by rfl) (by kernel_rfl) (by kernel_rfl) (by kernel_rfl) (fun _ _ _ h => h) (by rfl) ?hya18 hHeld ?resta18
                                case hya18 =>
                                  intro o ho
                                  simp only [List.getElem?_toArray, List.getElem?_cons_succ, List.getElem?_cons_zero, Option.some.injEq] at ho
                                  subst ho
                                  rintro _ ⟨nw, rfl⟩
                                  first | (go_simp; done) | (go_simp; with_reducible rfl)
                                try simp only [Act.put, List.setIfInBounds_toArray, List.set_cons_zero, List.set_cons_succ]
                                as_aux_lemma =>
                                 refine h_take (i := 21) (d := (some 135)) (v := ?va19) (by rfl) (by kernel_rfl) (by kernel_rfl) (by kernel_rfl) (fun _ _ _ h => h) (by rfl) ?hya19 hHeld ?resta19
                                 case hya19 =>
                                   intro o ho
                                   simp only [List.getElem?_toArray, List.getElem?_cons_succ, List.getElem?_cons_zero, Option.some.injEq] at ho
                                   subst ho
                                   rintro _ ⟨nw, rfl⟩
                                   first | (go_simp; done) | (go_simp; with_reducible rfl)
                                 try simp only [Act.put, List.setIfInBounds_toArray, List.set_cons_zero, List.set_cons_succ]
                                 as_aux_lemma =>
                                  refine h_take (i := 22) (d := (some 136)) (v := ?va20) (by rfl) (by kernel_rfl) (by kernel_rfl) (by kernel_rfl) (fun _ _ _ h => h) (by rfl) ?hya20 hHeld ?resta20
                                  case hya20 =>
                                    intro o ho
                                    simp only [List.getElem?_toArray, List.getElem?_cons_succ, List.getElem?_cons_zero, Option.some.injEq] at ho
                                    subst ho
                                    rintro _ ⟨nw, rfl⟩
                                    first | (go_simp; done) | (go_simp; with_reducible rfl)
                                  try simp only [Act.put, List.setIfInBounds_toArray, List.set_cons_zero, List.set_cons_succ]
                                  as_aux_lemma =>
                                   refine h_take (i := 23) (d := (some 137)) (v := ?va21) (by rfl) (by kernel_rfl) (by kernel_rfl) (by kernel_rfl) (fun _ _ _ h => h) (by rfl) ?hya21 hHeld ?resta21
                                   case hya21 =>
                                     intro o ho
                                     simp only [List.getElem?_toArray, List.getElem?_cons_succ, List.getElem?_cons_zero, Option.some.injEq] at ho
                                     subst ho
                                     rintro _ ⟨nw, rfl⟩
                                     first | (go_simp; done) | (go_simp; with_reducible rfl)
                                   try simp only [Act.put, List.setIfInBounds_toArray, List.set_cons_zero, List.set_cons_succ]
                                   as_aux_lemma =>
                                    refine h_take (i := 24) (d := (some 138)) (v := ?va22) (by rfl) (by kernel_rfl) (by kernel_rfl) (by kernel_rfl) (fun _ _ _ h => h) (by rfl) ?hya22 hHeld ?resta22
                                    case hya22 =>
                                      intro o ho
                                      simp only [List.getElem?_toArray, List.getElem?_cons_succ, List.getElem?_cons_zero, Option.some.injEq] at ho
                                      subst ho
                                      rintro _ ⟨nw, rfl⟩
                                      first | (go_simp; done) | (go_simp; with_reducible rfl)
                                    try simp only [Act.put, List.setIfInBounds_toArray, List.set_cons_zero, List.set_cons_succ]
                                    as_aux_lemma =>
                                     refine wpAnyH_ready (rs := [25]) (by kernel_rfl) (by simp) ?_
                                     refine AllReadyH.cons rfl (fun K hK => ?_) AllReadyH.nil
                                     go_simp
                                     refine (hNB _ (below_after_of hB1r hcur)).mono ?_
                                     intro e wq hq
                                     obtain ⟨aq, cq, rfl, hbq, ownq⟩ := hq.use
                                     have hcur := below_after_of hcur hbq
                                     have kf := fun w => field_BR1 0 aq ys.length cq w
                                     have iq := own_ints ownq
                                     clear hbq hq ownq
                                     refine hK.out _ _ ?_ (fun hHeld => ?_)
                                     · exact after_mk hcur
                                     clear hK K
                                     try simp only [Act.put, List.setIfInBounds_toArray, List.set_cons_zero, List.set_cons_succ]
                                     as_aux_lemma =>
                                      refine h_take (i := 26) (d := (some 140)) (v := ?va23) (by rfl) (by kernel_rfl) (by kernel_rfl) (by kernel_rfl) (fun _ _ _ h => h) (by rfl) ?hya23 hHeld ?resta23
                                      case hya23 =>
                                        intro o ho
                                        simp only [List.getElem?_toArray, List.getElem?_cons_succ, List.getElem?_cons_zero, Option.some.injEq] at ho
                                        subst ho
                                        rintro _ ⟨nw, rfl⟩
                                        first | (go_simp; done) | (go_simp; with_reducible rfl)
                                      try simp only [Act.put, List.setIfInBounds_toArray, List.set_cons_zero, List.set_cons_succ]
                                      as_aux_lemma =>
                                       refine wpAnyH_ready (rs := [27]) (by kernel_rfl) (by simp) ?_
                                       refine AllReadyH.cons rfl (fun K hK => ?_) AllReadyH.nil
                                       go_simp
                                       refine (hSO _ _ iq).mono ?_
                                       rintro e wq2 ⟨rfl, hbq⟩
                                       have hcur := below_after_of hcur hbq
                                       clear hbq iq kf
                                       refine hK.out _ _ ?_ (fun hHeld => ?_)
                                       · exact after_mk hcur
                                       clear hK K
                                       try simp only [Act.put, List.setIfInBounds_toArray, List.set_cons_zero, List.set_cons_succ]
                                       as_aux_lemma =>
                                        refine h_take (i := 28) (d := (some 142)) (v := ?va24) (by rfl) (by kernel_rfl) (by kernel_rfl) (by kernel_rfl) (fun _ _ _ h => h) (by rfl) ?hya24 hHeld ?resta24
                                        case hya24 =>
                                          intro o ho
                                          simp only [List.getElem?_toArray, List.getElem?_cons_succ, List.getElem?_cons_zero, Option.some.injEq] at ho
                                          subst ho
                                          rintro _ ⟨nw, rfl⟩
                                          first | (go_simp; done) | (go_simp; with_reducible rfl)
                                        try simp only [Act.put, List.setIfInBounds_toArray, List.set_cons_zero, List.set_cons_succ]
                                        as_aux_lemma =>
                                         refine h_take (i := 29) (d := (some 143)) (v := ?va25) (by rfl) (by kernel_rfl) (by kernel_rfl) (by kernel_rfl) (fun _ _ _ h => h) (by rfl) ?hya25 hHeld ?resta25
                                         case hya25 =>
                                           intro o ho
                                           simp only [List.getElem?_toArray, List.getElem?_cons_succ, List.getElem?_cons_zero, Option.some.injEq] at ho
                                           subst ho
                                           rintro _ ⟨nw, rfl⟩
                                           first | (go_simp; done) | (go_simp; with_reducible rfl)
                                         try simp only [Act.put, List.setIfInBounds_toArray, List.set_cons_zero, List.set_cons_succ]
                                         as_aux_lemma =>
                                          refine h_take (i := 30) (d := (some 144)) (v := ?va26) (by rfl) (by kernel_rfl) (by kernel_rfl) (by kernel_rfl) (fun _ _ _ h => h) (by rfl) ?hya26 hHeld ?resta26
                                          case hya26 =>
                                            intro o ho
                                            simp only [List.getElem?_toArray, List.getElem?_cons_succ, List.getElem?_cons_zero, Option.some.injEq] at ho
                                            subst ho
                                            rintro _ ⟨nw, rfl⟩
                                            first | (go_simp; done) | (go_simp; with_reducible rfl)
                                          try simp only [Act.put, List.setIfInBounds_toArray, List.set_cons_zero, List.set_cons_succ]
                                          as_aux_lemma =>
                                           refine h_take (i := 31) (d := (some 145)) (v := ?va27) (by rfl) (by kernel_rfl) (by kernel_rfl) (by kernel_rfl) (fun _ _ _ h => h) (by rfl) ?hya27 hHeld ?resta27
                                           case hya27 =>
                                             intro o ho
                                             simp only [List.getElem?_toArray, List.getElem?_cons_succ, List.getElem?_cons_zero, Option.some.injEq] at ho
                                             subst ho
                                             rintro _ ⟨nw, rfl⟩
                                             first | (go_simp; done) | (go_simp; with_reducible rfl)
                                           try simp only [Act.put, List.setIfInBounds_toArray, List.set_cons_zero, List.set_cons_succ]
                                           as_aux_lemma =>
                                            refine h_take (i := 32) (d := (some 146)) (v := ?va28) (by rfl) (by kernel_rfl) (by kernel_rfl) (by kernel_rfl) (fun _ _ _ h => h) (by rfl) ?hya28 hHeld ?resta28
                                            case hya28 =>
                                              intro o ho
                                              simp only [List.getElem?_toArray, List.getElem?_cons_succ, List.getElem?_cons_zero, Option.some.injEq] at ho
                                              subst ho
                                              rintro _ ⟨nw, rfl⟩
                                              first | (go_simp; done) | (go_simp; with_reducible rfl)
                                            try simp only [Act.put, List.setIfInBounds_toArray, List.set_cons_zero, List.set_cons_succ]
                                            as_aux_lemma =>
                                             refine h_take (i := 33) (d := (some 147)) (v := ?va29) (by rfl) (by kernel_rfl) (by kernel_rfl) (by kernel_rfl) (fun _ _ _ h => h) (by rfl) ?hya29 hHeld ?resta29
                                             case hya29 =>
                                               intro o ho
                                               simp only [List.getElem?_toArray, List.getElem?_cons_succ, List.getElem?_cons_zero, Option.some.injEq] at ho
                                               subst ho
                                               rintro _ ⟨nw, rfl⟩
                                               first | (go_simp; done) | (go_simp; with_reducible rfl)
                                             try simp only [Act.put, List.setIfInBounds_toArray, List.set_cons_zero, List.set_cons_succ]
                                             as_aux_lemma =>
                                              refine h_take (i := 34) (d := (some 148)) (v := ?va30) (by rfl) (by kernel_rfl) (by kernel_rfl) (by kernel_rfl) (fun _ _ _ h => h) (by rfl) ?hya30 hHeld ?resta30
                                              case hya30 =>
                                                intro o ho
                                                simp only [List.getElem?_toArray, List.getElem?_cons_succ, List.getElem?_cons_zero, Option.some.injEq] at ho
                                                subst ho
                                                rintro _ ⟨nw, rfl⟩
                                                first | (go_simp; done) | (go_simp; with_reducible rfl)
                                              try simp only [Act.put, List.setIfInBounds_toArray, List.set_cons_zero, List.set_cons_succ]
                                              as_aux_lemma =>
                                               refine wpAnyH_ready (rs := [35]) (by kernel_rfl) (by simp) ?_
                                               refine AllReadyH.cons rfl (fun K hK => ?_) AllReadyH.nil
                                               go_simp
                                               refine (hRS _ (below_after_of hB1r hcur)).mono ?_
                                               rintro e wq3 ⟨rfl, hbq⟩
                                               have hcur := below_after_of hcur hbq
                                               clear hbq
                                               refine hK.out _ _ ?_ (fun hHeld => ?_)
                                               · exact after_mk hcur
                                               clear hK K
                                               try simp only [Act.put, List.setIfInBounds_toArray, List.set_cons_zero, List.set_cons_succ]
                                               as_aux_lemma =>
                                                refine h_take (i := 36) (d := (some 150)) (v := ?va31) (by rfl) (by kernel_rfl) (by kernel_rfl) (by kernel_rfl) (fun _ _ _ h => h) (by rfl) ?hya31 hHeld ?resta31
                                                case hya31 =>
                                                  intro o ho
                                                  simp only [List.getElem?_toArray, List.getElem?_cons_succ, List.getElem?_cons_zero, Option.some.injEq] at ho
                                                  subst ho
                                                  rintro _ ⟨nw, rfl⟩
                                                  first | (go_simp; done) | (go_simp; with_reducible rfl)
                                                try simp only [Act.put, List.setIfInBounds_toArray, List.set_cons_zero, List.set_cons_succ]
                                                as_aux_lemma =>
                                                 refine h_take (i := 37) (d := (some 151)) (v := ?va32) (by rfl) (by kernel_rfl) (by kernel_rfl) (by kernel_rfl) (fun _ _ _ h => h) (by rfl) ?hya32 hHeld ?resta32
                                                 case hya32 =>
                                                   intro o ho
                                                   simp only [List.getElem?_toArray, List.getElem?_cons_succ, List.getElem?_cons_zero, Option.some.injEq] at ho
                                                   subst ho
                                                   rintro _ ⟨nw, rfl⟩
                                                   first | (go_simp; done) | (go_simp; with_reducible rfl)
                                                 try simp only [Act.put, List.setIfInBounds_toArray, List.set_cons_zero, List.set_cons_succ]
                                                 as_aux_lemma =>
                                                  refine h_take (i := 38) (d := (some 152)) (v := ?va33) (by rfl) (by kernel_rfl) (by kernel_rfl) (by kernel_rfl) (fun _ _ _ h => h) (by rfl) ?hya33 hHeld ?resta33
                                                  case hya33 =>
                                                    intro o ho
                                                    simp only [List.getElem?_toArray, List.getElem?_cons_succ, List.getElem?_cons_zero, Option.some.injEq] at ho
                                                    subst ho
                                                    rintro _ ⟨nw, rfl⟩
                                                    first | (go_simp; done) | (go_simp; with_reducible rfl)
                                                  try simp only [Act.put, List.setIfInBounds_toArray, List.set_cons_zero, List.set_cons_succ]
                                                  as_aux_lemma =>
                                                   refine h_take (i := 39) (d := (some 2)) (v := ?va34) (by rfl) (by kernel_rfl) (by kernel_rfl) (by kernel_rfl) (fun _ _ _ h => h) (by rfl) ?hya34 hHeld ?resta34
                                                   case hya34 =>
                                                     intro o ho
                                                     simp only [List.getElem?_toArray, List.getElem?_cons_succ, List.getElem?_cons_zero, Option.some.injEq] at ho
                                                     subst ho
                                                     rintro _ ⟨nw, rfl⟩
                                                     first | (go_simp; done) | (go_simp; with_reducible rfl)
                                                   try simp only [Act.put, List.setIfInBounds_toArray, List.set_cons_zero, List.set_cons_succ]
                                                   as_aux_lemma =>
                                                    refine wpAnyH_done (by kernel_rfl) ?_ _
                                                    have hBZ := below_after_of hBE.out hcur
                                                    clear hNB hSO hRS
                                                    go_wp2
                                                    go_ret
                                                    exact ⟨by simp, hBZ⟩
          · have hk0 : k = 0 := by have := HN.out; omega
            subst hk0
            have hfv : (fv == 0) = true := by rw [ev]; rfl
            clear ev hl0 HV
            have q1 := After.cell f1
            have q2 := After.cell r0
            have q3 := After.cell r1
            have hne := After.ne wr
            clear HCELL f1 r0 r1 hbr
            go_wp2_with fail
            refine wp_region_held_drew (S := fun w' => ∃ n : After wr, w' = n.w) (by kernel_rfl) (after_mk (Below.refl _ _).drew) (fun hHeld => ?_)
            have hcur : Below wr.heap.size wr wr.drew := (Below.refl _ _).drew
            refine h_take (i := 0) (d := (some 114)) (v := ?vb1) (by rfl) (by kernel_rfl) (by kernel_rfl) (by kernel_rfl) (fun _ _ _ h => h) (by rfl) ?hyb1 hHeld ?restb1
            case hyb1 =>
              intro o ho
              simp only [List.getElem?_toArray, List.getElem?_cons_zero, Option.some.injEq] at ho
              subst ho
              rintro _ ⟨nw, rfl⟩
              first | (go_simp; done) | (go_simp; with_reducible rfl)
            try simp only [Act.put, List.setIfInBounds_toArray, List.set_cons_zero, List.set_cons_succ]
            as_aux_lemma =>
             refine h_take (i := 1) (d := (some 115)) (v := ?vb2) (by rfl) (by kernel_rfl) (by kernel_rfl) (by kernel_rfl) (fun _ _ _ h => h) (by rfl) ?hyb2 hHeld ?restb2
             case hyb2 =>
               intro o ho
               simp only [List.getElem?_toArray, List.getElem?_cons_succ, List.getElem?_cons_zero, Option.some.injEq] at ho
               subst ho
               rintro _ ⟨nw, rfl⟩
               first | (go_simp; done) | (go_simp; with_reducible rfl)
             try simp only [Act.put, List.setIfInBounds_toArray, List.set_cons_zero, List.set_cons_succ]
             as_aux_lemma =>
              refine h_take (i := 2) (d := (some 116)) (v := ?vb3) (by rfl) (by kernel_rfl) (by kernel_rfl) (by kernel_rfl) (fun _ _ _ h => h) (by rfl) ?hyb3 hHeld ?restb3
              case hyb3 =>
                intro o ho
                simp only [List.getElem?_toArray, List.getElem?_cons_succ, List.getElem?_cons_zero, Option.some.injEq] at ho
                subst ho
                rintro _ ⟨nw, rfl⟩
                first | (go_simp; done) | (go_simp; with_reducible rfl)
              try simp only [Act.put, List.setIfInBounds_toArray, List.set_cons_zero, List.set_cons_succ]
              as_aux_lemma =>
               refine h_take (i := 3) (d := (some 117)) (v := ?vb4) (by rfl) (by kernel_rfl) (by kernel_rfl) (by kernel_rfl) (fun _ _ _ h => h) (by rfl) ?hyb4 hHeld ?restb4
               case hyb4 =>
                 intro o ho
                 simp only [List.getElem?_toArray, List.getElem?_cons_succ, List.getElem?_cons_zero, Option.some.injEq] at ho
                 subst ho
                 rintro _ ⟨nw, rfl⟩
                 first | (go_simp; done) | (go_simp; with_reducible rfl)
               try simp only [Act.put, List.setIfInBounds_toArray, List.set_cons_zero, List.set_cons_succ]
               as_aux_lemma =>
                refine h_take (i := 4) (d := (some 118)) (v := ?vb5) (by rfl) (by kernel_rfl) (by kernel_rfl) (by kernel_rfl) (fun _ _ _ h => h) (by rfl) ?hyb5 hHeld ?restb5
                case hyb5 =>
                  intro o ho
                  simp only [List.getElem?_toArray, List.getElem?_cons_succ, List.getElem?_cons_zero, Option.some.injEq] at ho
                  subst ho
                  rintro _ ⟨nw, rfl⟩
                  first | (go_simp; done) | (go_simp; with_reducible rfl)
                try simp only [Act.put, List.setIfInBounds_toArray, List.set_cons_zero, List.set_cons_succ]
                as_aux_lemma =>
                 refine h_take (i := 5) (d := (some 119)) (v := ?vb6) (by rfl) (by kernel_rfl) (by kernel_rfl) (by kernel_rfl) (fun _ _ _ h => h) (by rfl) ?hyb6 hHeld ?restb6
                 case hyb6 =>
                   intro o ho
                   simp only [List.getElem?_toArray, List.getElem?_cons_succ, List.getElem?_cons_zero, Option.some.injEq] at ho
                   subst ho
                   rintro _ ⟨nw, rfl⟩
                   first | (go_simp; done) | (go_simp; with_reducible rfl)
                 try simp only [Act.put, List.setIfInBounds_toArray, List.set_cons_zero, List.set_cons_succ]
                 as_aux_lemma =>
                  refine h_take (i := 6) (d := (some 120)) (v := ?vb7) (by rfl) (by kernel_rfl) (by kernel_rfl) (by kernel_rfl) (fun _ _ _ h => h) (by rfl) ?hyb7 hHeld ?restb7
                  case hyb7 =>
                    intro o ho
                    simp only [List.getElem?_toArray, List.getElem?_cons_succ, List.getElem?_cons_zero, Option.some.injEq] at ho
                    subst ho
                    rintro _ ⟨nw, rfl⟩
                    first | (go_simp; done) | (go_simp; with_reducible rfl)
                  try simp only [Act.put, List.setIfInBounds_toArray, List.set_cons_zero, List.set_cons_succ]
                  as_aux_lemma =>
                   refine h_take (i := 7) (d := (some 121)) (v := ?vb8) (by rfl) (by kernel_rfl) (by kernel_rfl) (by kernel_rfl) (fun _ _ _ h => h) (by rfl) ?hyb8 hHeld ?restb8
                   case hyb8 =>
                     intro o ho
                     simp only [List.getElem?_toArray, List.getElem?_cons_succ, List.getElem?_cons_zero, Option.some.injEq] at ho
                     subst ho
                     rintro _ ⟨nw, rfl⟩
                     first | (go_simp; done) | (go_simp; with_reducible rfl)
                   try simp only [Act.put, List.setIfInBounds_toArray, List.set_cons_zero, List.set_cons_succ]
                   as_aux_lemma =>
                    refine h_take (i := 8) (d := (some 122)) (v := ?vb9) (by rfl) (by kernel_rfl) (by kernel_rfl) (by kernel_rfl) (fun _ _ _ h => h) (by rfl) ?hyb9 hHeld ?restb9
                    case hyb9 =>
                      intro o ho
                      simp only [List.getElem?_toArray, List.getElem?_cons_succ, List.getElem?_cons_zero, Option.some.injEq] at ho
                      subst ho
                      rintro _ ⟨nw, rfl⟩
                      first | (go_simp; done) | (go_simp; with_reducible rfl)
                    try simp only [Act.put, List.setIfInBounds_toArray, List.set_cons_zero, List.set_cons_succ]
                    as_aux_lemma =>
                     refine h_skip (i := 9) (d := (some 123)) (by rfl) (by kernel_rfl) (by kernel_rfl) (by kernel_rfl) (fun _ _ _ h => h) (by rfl) hHeld ?_
                     try simp only [Act.put, List.setIfInBounds_toArray, List.set_cons_zero, List.set_cons_succ]
                     as_aux_lemma =>
                      refine h_skip (i := 10) (d := (some 124)) (by rfl) (by kernel_rfl) (by kernel_rfl) (by kernel_rfl) (fun _ _ _ h => h) (by rfl) hHeld ?_
                      try simp only [Act.put, List.setIfInBounds_toArray, List.set_cons_zero, List.set_cons_succ]
                      as_aux_lemma =>
                       refine h_skip (i := 11) (d := (some 125)) (by rfl) (by kernel_rfl) (by kernel_rfl) (by kernel_rfl) (fun _ _ _ h => h) (by rfl) hHeld ?_
                       try simp only [Act.put, List.setIfInBounds_toArray, List.set_cons_zero, List.set_cons_succ]
                       as_aux_lemma =>
                        refine h_skip (i := 12) (d := (some 126)) (by rfl) (by kernel_rfl) (by kernel_rfl) (by kernel_rfl) (fun _ _ _ h => h) (by rfl) hHeld ?_
                        try simp only [Act.put, List.setIfInBounds_toArray, List.set_cons_zero, List.set_cons_succ]
                        as_aux_lemma =>
                         refine h_skip (i := 13) (d := (some 127)) (by rfl) (by kernel_rfl) (by kernel_rfl) (by kernel_rfl) (fun _ _ _ h => h) (by rfl) hHeld ?_
                         try simp only [Act.put, List.setIfInBounds_toArray, List.set_cons_zero, List.set_cons_succ]
                         as_aux_lemma =>
                          refine h_skip (i := 14) (d := (some 128)) (by rfl) (by kernel_rfl) (by kernel_rfl) (by kernel_rfl) (fun _ _ _ h => h) (by rfl) hHeld ?_
                          try simp only [Act.put, List.setIfInBounds_toArray, List.set_cons_zero, List.set_cons_succ]
                          as_aux_lemma =>
                           refine h_take (i := 15) (d := (some 129)) (v := ?vb10) (by rfl) (by kernel_rfl) (by kernel_rfl) (by kernel_rfl) (fun _ _ _ h => h) (by rfl) ?hyb10 hHeld ?restb10
                           case hyb10 =>
                             intro o ho
                             simp only [List.getElem?_toArray, List.getElem?_cons_succ, List.getElem?_cons_zero, Option.some.injEq] at ho
                             subst ho
                             rintro _ ⟨nw, rfl⟩
                             first | (go_simp; done) | (go_simp; with_reducible rfl)
                           try simp only [Act.put, List.setIfInBounds_toArray, List.set_cons_zero, List.set_cons_succ]
                           as_aux_lemma =>
                            refine h_take (i := 16) (d := (some 130)) (v := ?vb11) (by rfl) (by kernel_rfl) (by kernel_rfl) (by kernel_rfl) (fun _ _ _ h => h) (by rfl) ?hyb11 hHeld ?restb11
                            case hyb11 =>
                              intro o ho
                              simp only [List.getElem?_toArray, List.getElem?_cons_succ, List.getElem?_cons_zero, Option.some.injEq] at ho
                              subst ho
                              rintro _ ⟨nw, rfl⟩
                              first | (go_simp; done) | (go_simp; with_reducible rfl)
                            try simp only [Act.put, List.setIfInBounds_toArray, List.set_cons_zero, List.set_cons_succ]
                            as_aux_lemma =>
                             refine h_take (i := 17) (d := (some 131)) (v := ?vb12) (by rfl) (by kernel_rfl) (by kernel_rfl) (by kernel_rfl) (fun _ _ _ h => h) (by rfl) ?hyb12 hHeld ?restb12
                             case hyb12 =>
                               intro o ho
                               simp only [List.getElem?_toArray, List.getElem?_cons_succ, List.getElem?_cons_zero, Option.some.injEq] at ho
                               subst ho
                               rintro _ ⟨nw, rfl⟩
                               first | (go_simp; done) | (go_simp; with_reducible rfl)
                             try simp only [Act.put, List.setIfInBounds_toArray, List.set_cons_zero, List.set_cons_succ]
                             as_aux_lemma =>
                              refine h_take (i := 18) (d := (some 132)) (v := ?vb13) (by rfl) (by kernel_rfl) (by kernel_rfl) (by kernel_rfl) (fun _ _ _ h => h) (by rfl) ?hyb13 hHeld ?restb13
                              case hyb13 =>
                                intro o ho
                                simp only [List.getElem?_toArray, List.getElem?_cons_succ, List.getElem?_cons_zero, Option.some.injEq] at ho
                                subst ho
                                rintro _ ⟨nw, rfl⟩
                                first | (go_simp; done) | (go_simp; with_reducible rfl)
                              try simp only [Act.put, List.setIfInBounds_toArray, List.set_cons_zero, List.set_cons_succ]
                              as_aux_lemma =>
                               refine h_take (i := 19) (d := (some 133)) (v := ?vb14) (by rfl) (by kernel_rfl) (by kernel_rfl) (by kernel_rfl) (fun _ _ _ h => h) (by rfl) ?hyb14 hHeld ?restb14
                               case hyb14 =>
                                 intro o ho
                                 simp only [List.getElem?_toArray, List.getElem?_cons_succ, List.getElem?_cons_zero, Option.some.injEq] at ho
                                 subst ho
                                 rintro _ ⟨nw, rfl⟩
                                 first | (go_simp; done) | (go_simp; with_reducible rfl)
                               try simp only [Act.put, List.setIfInBounds_toArray, List.set_cons_zero, List.set_cons_succ]
                               as_aux_lemma =>
                                refine h_take (i := 20) (d := (some 134)) (v := ?vb15) (by rfl) (by kernel_rfl) (by kernel_rfl) (by kernel_rfl) (fun _ _ _ h => h) (by rfl) ?hyb15 hHeld ?restb15
                                case hyb15 =>
                                  intro o ho
                                  simp only [List.getElem?_toArray, List.getElem?_cons_succ, List.getElem?_cons_zero, Option.some.injEq] at ho
                                  subst ho
                                  rintro _ ⟨nw, rfl⟩
                                  first | (go_simp; done) | (go_simp; with_reducible rfl)
                                try simp only [Act.put, List.setIfInBounds_toArray, List.set_cons_zero, List.set_cons_succ]
                                as_aux_lemma =>
                                 refine h_take (i := 21) (d := (some 135)) (v := ?vb16) (by rfl) (by kernel_rfl) (by kernel_rfl) (by kernel_rfl) (fun _ _ _ h => h) (by rfl) ?hyb16 hHeld ?restb16
                                 case hyb16 =>
                                   intro o ho
                                   simp only [List.getElem?_toArray, List.getElem?_cons_succ, List.getElem?_cons_zero, Option.some.injEq] at ho
                                   subst ho
                                   rintro _ ⟨nw, rfl⟩
                                   first | (go_simp; done) | (go_simp; with_reducible rfl)
                                 try simp only [Act.put, List.setIfInBounds_toArray, List.set_cons_zero, List.set_cons_succ]
                                 as_aux_lemma =>
                                  refine h_take (i := 22) (d := (some 136)) (v := ?vb17) (by rfl) (by kernel_rfl) (by kernel_rfl) (by kernel_rfl) (fun _ _ _ h => h) (by rfl) ?hyb17 hHeld ?restb17
                                  case hyb17 =>
                                    intro o ho
                                    simp only [List.getElem?_toArray, List.getElem?_cons_succ, List.getElem?_cons_zero, Option.some.injEq] at ho
                                    subst ho
                                    rintro _ ⟨nw, rfl⟩
                                    first | (go_simp; done) | (go_simp; with_reducible rfl)
                                  try simp only [Act.put, List.setIfInBounds_toArray, List.set_cons_zero, List.set_cons_succ]
                                  as_aux_lemma =>
                                   refine h_take (i := 23) (d := (some 137)) (v := ?vb18) (by rfl) (by kernel_rfl) (by kernel_rfl) (by kernel_rfl) (fun _ _ _ h => h) (by rfl) ?hyb18 hHeld ?restb18
                                   case hyb18 =>
                                     intro o ho
                                     simp only [List.getElem?_toArray, List.getElem?_cons_succ, List.getElem?_cons_zero, Option.some.injEq] at ho
                                     subst ho
                                     rintro _ ⟨nw, rfl⟩
                                     first | (go_simp; done) | (go_simp; with_reducible rfl)
                                   try simp only [Act.put, List.setIfInBounds_toArray, List.set_cons_zero, List.set_cons_succ]
                                   as_aux_lemma =>
                                    refine h_take (i := 24) (d := (some 138)) (v := ?vb19) (by rfl) (by kernel_rfl) (by kernel_rfl) (by kernel_rfl) (fun _ _ _ h => h) (by rfl) ?hyb19 hHeld ?restb19
                                    case hyb19 =>
                                      intro o ho
                                      simp only [List.getElem?_toArray, List.getElem?_cons_succ, List.getElem?_cons_zero, Option.some.injEq] at ho
                                      subst ho
                                      rintro _ ⟨nw, rfl⟩
                                      first | (go_simp; done) | (go_simp; with_reducible rfl)
                                    try simp only [Act.put, List.setIfInBounds_toArray, List.set_cons_zero, List.set_cons_succ]
                                    as_aux_lemma =>
                                     refine wpAnyH_ready (rs := [25]) (by kernel_rfl) (by simp) ?_
                                     refine AllReadyH.cons rfl (fun K hK => ?_) AllReadyH.nil
                                     go_simp
                                     refine (hNB _ (below_after_of hB1r hcur)).mono ?_
                                     intro e wq hq
                                     obtain ⟨aq, cq, rfl, hbq, ownq⟩ := hq.use
                                     have hcur := below_after_of hcur hbq
                                     have kf := fun w => field_BR1 0 aq ys.length cq w
                                     have iq := own_ints ownq
                                     clear hbq hq ownq
                                     refine hK.out _ _ ?_ (fun hHeld => ?_)
                                     · exact after_mk hcur
                                     clear hK K
                                     try simp only [Act.put, List.setIfInBounds_toArray, List.set_cons_zero, List.set_cons_succ]
                                     as_aux_lemma =>
                                      refine h_take (i := 26) (d := (some 140)) (v := ?vb20) (by rfl) (by kernel_rfl) (by kernel_rfl) (by kernel_rfl) (fun _ _ _ h => h) (by rfl) ?hyb20 hHeld ?restb20
                                      case hyb20 =>
                                        intro o ho
                                        simp only [List.getElem?_toArray, List.getElem?_cons_succ, List.getElem?_cons_zero, Option.some.injEq] at ho
                                        subst ho
                                        rintro _ ⟨nw, rfl⟩
                                        first | (go_simp; done) | (go_simp; with_reducible rfl)
                                      try simp only [Act.put, List.setIfInBounds_toArray, List.set_cons_zero, List.set_cons_succ]
                                      as_aux_lemma =>
                                       refine wpAnyH_ready (rs := [27]) (by kernel_rfl) (by simp) ?_
                                       refine AllReadyH.cons rfl (fun K hK => ?_) AllReadyH.nil
                                       go_simp
                                       refine (hSO _ _ iq).mono ?_
                                       rintro e wq2 ⟨rfl, hbq⟩
                                       have hcur := below_after_of hcur hbq
                                       clear hbq iq kf
                                       refine hK.out _ _ ?_ (fun hHeld => ?_)
                                       · exact after_mk hcur
                                       clear hK K
                                       try simp only [Act.put, List.setIfInBounds_toArray, List.set_cons_zero, List.set_cons_succ]
                                       as_aux_lemma =>
                                        refine h_take (i := 28) (d := (some 142)) (v := ?vb21) (by rfl) (by kernel_rfl) (by kernel_rfl) (by kernel_rfl) (fun _ _ _ h => h) (by rfl) ?hyb21 hHeld ?restb21
                                        case hyb21 =>
                                          intro o ho
                                          simp only [List.getElem?_toArray, List.getElem?_cons_succ, List.getElem?_cons_zero, Option.some.injEq] at ho
                                          subst ho
                                          rintro _ ⟨nw, rfl⟩
                                          first | (go_simp; done) | (go_simp; with_reducible rfl)
                                        try simp only [Act.put, List.setIfInBounds_toArray, List.set_cons_zero, List.set_cons_succ]
                                        as_aux_lemma =>
                                         refine h_take (i := 29) (d := (some 143)) (v := ?vb22) (by rfl) (by kernel_rfl) (by kernel_rfl) (by kernel_rfl) (fun _ _ _ h => h) (by rfl) ?hyb22 hHeld ?restb22
                                         case hyb22 =>
                                           intro o ho
                                           simp only [List.getElem?_toArray, List.getElem?_cons_succ, List.getElem?_cons_zero, Option.some.injEq] at ho
                                           subst ho
                                           rintro _ ⟨nw, rfl⟩
                                           first | (go_simp; done) | (go_simp; with_reducible rfl)
                                         try simp only [Act.put, List.setIfInBounds_toArray, List.set_cons_zero, List.set_cons_succ]
                                         as_aux_lemma =>
                                          refine h_take (i := 30) (d := (some 144)) (v := ?vb23) (by rfl) (by kernel_rfl) (by kernel_rfl) (by kernel_rfl) (fun _ _ _ h => h) (by rfl) ?hyb23 hHeld ?restb23
                                          case hyb23 =>
                                            intro o ho
                                            simp only [List.getElem?_toArray, List.getElem?_cons_succ, List.getElem?_cons_zero, Option.some.injEq] at ho
                                            subst ho
                                            rintro _ ⟨nw, rfl⟩
                                            first | (go_simp; done) | (go_simp; with_reducible rfl)
                                          try simp only [Act.put, List.setIfInBounds_toArray, List.set_cons_zero, List.set_cons_succ]
                                          as_aux_lemma =>
                                           refine h_take (i := 31) (d := (some 145)) (v := ?vb24) (by rfl) (by kernel_rfl) (by kernel_rfl) (by kernel_rfl) (fun _ _ _ h => h) (by rfl) ?hyb24 hHeld ?restb24
                                           case hyb24 =>
                                             intro o ho
                                             simp only [List.getElem?_toArray, List.getElem?_cons_succ, List.getElem?_cons_zero, Option.some.injEq] at ho
                                             subst ho
                                             rintro _ ⟨nw, rfl⟩
                                             first | (go_simp; done) | (go_simp; with_reducible rfl)
                                           try simp only [Act.put, List.setIfInBounds_toArray, List.set_cons_zero, List.set_cons_succ]
                                           as_aux_lemma =>
                                            refine h_take (i := 32) (d := (some 146)) (v := ?vb25) (by rfl) (by kernel_rfl) (by kernel_rfl) (by kernel_rfl) (fun _ _ _ h => h) (by rfl) ?hyb25 hHeld ?restb25
                                            case hyb25 =>
                                              intro o ho
                                              simp only [List.getElem?_toArray, List.getElem?_cons_succ, List.getElem?_cons_zero, Option.some.injEq] at ho
                                              subst ho
                                              rintro _ ⟨nw, rfl⟩
                                              first | (go_simp; done) | (go_simp; with_reducible rfl)
                                            try simp only [Act.put, List.setIfInBounds_toArray, List.set_cons_zero, List.set_cons_succ]
                                            as_aux_lemma =>
                                             refine h_take (i := 33) (d := (some 147)) (v := ?vb26) (by rfl) (by kernel_rfl) (by kernel_rfl) (by kernel_rfl) (fun _ _ _ h => h) (by rfl) ?hyb26 hHeld ?restb26
                                             case hyb26 =>
                                               intro o ho
                                               simp only [List.getElem?_toArray, List.getElem?_cons_succ, List.getElem?_cons_zero, Option.some.injEq] at ho
                                               subst ho
                                               rintro _ ⟨nw, rfl⟩
                                               first | (go_simp; done) | (go_simp; with_reducible rfl)
                                             try simp only [Act.put, List.setIfInBounds_toArray, List.set_cons_zero, List.set_cons_succ]
                                             as_aux_lemma =>
                                              refine h_take (i := 34) (d := (some 148)) (v := ?vb27) (by rfl) (by kernel_rfl) (by kernel_rfl) (by kernel_rfl) (fun _ _ _ h => h) (by rfl) ?hyb27 hHeld ?restb27
                                              case hyb27 =>
                                                intro o ho
                                                simp only [List.getElem?_toArray, List.getElem?_cons_succ, List.getElem?_cons_zero, Option.some.injEq] at ho
                                                subst ho
                                                rintro _ ⟨nw, rfl⟩
                                                first | (go_simp; done) | (go_simp; with_reducible rfl)
                                              try simp only [Act.put, List.setIfInBounds_toArray, List.set_cons_zero, List.set_cons_succ]
                                              as_aux_lemma =>
                                               refine wpAnyH_ready (rs := [35]) (by kernel_rfl) (by simp) ?_
                                               refine AllReadyH.cons rfl (fun K hK => ?_) AllReadyH.nil
                                               go_simp
                                               refine (hRS _ (below_after_of hB1r hcur)).mono ?_
                                               rintro e wq3 ⟨rfl, hbq⟩
                                               have hcur := below_after_of hcur hbq
                                               clear hbq
                                               refine hK.out _ _ ?_ (fun hHeld => ?_)
                                               · exact after_mk hcur
                                               clear hK K
                                               try simp only [Act.put, List.setIfInBounds_toArray, List.set_cons_zero, List.set_cons_succ]
                                               as_aux_lemma =>
                                                refine h_take (i := 36) (d := (some 150)) (v := ?vb28) (by rfl) (by kernel_rfl) (by kernel_rfl) (by kernel_rfl) (fun _ _ _ h => h) (by rfl) ?hyb28 hHeld ?restb28
                                                case hyb28 =>
                                                  intro o ho
                                                  simp only [List.getElem?_toArray, List.getElem?_cons_succ, List.getElem?_cons_zero, Option.some.injEq] at ho
                                                  subst ho
                                                  rintro _ ⟨nw, rfl⟩
                                                  first | (go_simp; done) | (go_simp; with_reducible rfl)
                                                try simp only [Act.put, List.setIfInBounds_toArray, List.set_cons_zero, List.set_cons_succ]
                                                as_aux_lemma =>
                                                 refine h_take (i := 37) (d := (some 151)) (v := ?vb29) (by rfl) (by kernel_rfl) (by kernel_rfl) (by kernel_rfl) (fun _ _ _ h => h) (by rfl) ?hyb29 hHeld ?restb29
                                                 case hyb29 =>
                                                   intro o ho
                                                   simp only [List.getElem?_toArray, List.getElem?_cons_succ, List.getElem?_cons_zero, Option.some.injEq] at ho
                                                   subst ho
                                                   rintro _ ⟨nw, rfl⟩
                                                   first | (go_simp; done) | (go_simp; with_reducible rfl)
                                                 try simp only [Act.put, List.setIfInBounds_toArray, List.set_cons_zero, List.set_cons_succ]
                                                 as_aux_lemma =>
                                                  refine h_take (i := 38) (d := (some 152)) (v := ?vb30) (by rfl) (by kernel_rfl) (by kernel_rfl) (by kernel_rfl) (fun _ _ _ h => h) (by rfl) ?hyb30 hHeld ?restb30
                                                  case hyb30 =>
                                                    intro o ho
                                                    simp only [List.getElem?_toArray, List.getElem?_cons_succ, List.getElem?_cons_zero, Option.some.injEq] at ho
                                                    subst ho
                                                    rintro _ ⟨nw, rfl⟩
                                                    first | (go_simp; done) | (go_simp; with_reducible rfl)
                                                  try simp only [Act.put, List.setIfInBounds_toArray, List.set_cons_zero, List.set_cons_succ]
                                                  as_aux_lemma =>
                                                   refine h_take (i := 39) (d := (some 2)) (v := ?vb31) (by rfl) (by kernel_rfl) (by kernel_rfl) (by kernel_rfl) (fun _ _ _ h => h) (by rfl) ?hyb31 hHeld ?restb31
                                                   case hyb31 =>
                                                     intro o ho
                                                     simp only [List.getElem?_toArray, List.getElem?_cons_succ, List.getElem?_cons_zero, Option.some.injEq] at ho
                                                     subst ho
                                                     rintro _ ⟨nw, rfl⟩
                                                     first | (go_simp; done) | (go_simp; with_reducible rfl)
                                                   try simp only [Act.put, List.setIfInBounds_toArray, List.set_cons_zero, List.set_cons_succ]
                                                   as_aux_lemma =>
                                                    refine wpAnyH_done (by kernel_rfl) ?_ _
                                                    have hBZ := below_after_of hBE.out hcur
                                                    clear hNB hSO hRS
                                                    go_wp2
                                                    go_ret
                                                    exact ⟨by simp, hBZ⟩
set_option maxRecDepth 100000 in
set_option maxHeartbeats 1000000 in
theorem fnTries_walk (v : Value) (xs : List Int) (w : World) (hv : Ints .u8 w v xs) (hx : xs.length ≤ maxLen) (hw : ∀ n ∈ xs, (Lit.int .u8 n).wf = true) :
    Calls Try.prog 3 #[v] w fun e w' => e = .returned (.bool true) ∧ Below w.heap.size w w' := by
  by_cases h : xs.length ≤ 1048576
  · exact fnTries_small v xs w ⟨hv, h, hw⟩ (ints_far hv)
  · obtain ⟨a, c, rfl⟩ := hv.shape
    have hlb := fun w => lwBig4 a xs.length c w hx
    rw [show decide (1048576 < xs.length) = true by simp; omega] at hlb
    generalize xs.length = n at *
    clear hv hw
    go_enter Try.func3, Try.ntmps3
    go_wp2_with fail
    refine (hlb _).mono ?_
    rintro e w0 ⟨rfl, rfl⟩
    clear hlb
    go_wp2
    go_ret
    exact ⟨rfl, Below.refl _ _⟩
end U
end Go.Proofs.Ytonadfpblgmohaa
