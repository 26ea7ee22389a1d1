/- OldClash, by the program: whatever it is asked. -/
import Derived.Test.YtgflamlfplpfdaaOp11
namespace Go.Proofs.Ytgflamlfplpfdaa
open Go.RowKit
namespace U
set_option maxRecDepth 100000 in
set_option maxHeartbeats 8000000 in
theorem implOldClash_any (v : Value) (l : Prl) (x : Int) (b : Bool) (y : Int) (pv : Value) (p : List Int) (w : World) (hv : Prs w v l) (hvk : Okv v) (hl : l.length ≤ 1048576) (hp : Ints .i64 w pv p) :
    Calls Try.prog 37 #[v, .int .i64 x, .bool b, .int .i64 y, pv] w fun e w' => ClashAns w (ocC l x b y p) (ocF l x b y p) (ocP l x b y p).1 (ocP l x b y p).2 e w' := by
  have hF : ∀ w', Below w.heap.size w w' → Calls Try.prog 19 #[v] w' fun e w'' => e = .returned (.int .i64 (slF l)) ∧ Below w'.heap.size w' w'' := fun w' h => implSlotsFault_any v l w' (hv.below h) (by omega)
  have HM := fun w' h => implClimbOld_any x b y pv p w' (hp.below (w' := w') h)
  obtain ⟨va, vc, hve⟩ := hv.shape
  obtain ⟨pa, pc, hpe⟩ := hp.shape
  by_cases h0 : slF l = 0
  · rw [h0] at hF
    by_cases hc : coC x b y p = 0
    · rw [hc] at HM
      by_cases hr : coV x b y p = nd l 8 0
      · exact implOldClash_ok v l x b y pv p w hv hvk hp h0 hc hr
      · have hR := fun w' h => implOldRoot_any v l w' (hv.below (w' := w') h) (by omega)
        have e1 : orC l = 0 := h0
        have e2 : orV l = nd l 8 0 := by unfold orV; rw [if_pos h0]
        rw [e1, e2] at hR
        rw [(oc_root h0 hc hr).1, (oc_root h0 hc hr).2]
        have hrn : ¬ coV x b y p = nd l 8 0 := hr
        generalize (ocP l x b y p).1 = P at *
        generalize (ocP l x b y p).2 = Q at *
        generalize coV x b y p = ct at *
        generalize nd l 8 0 = rt at *
        subst hve hpe
        generalize p.length = pn at *
        generalize l.length = n at *
        clear hv hvk hp hc h0 hr e1 e2
        obtain ⟨W0, hW0⟩ : ∃ W0, W0 = w.alloc (.cells #[.int .i64 0, .bool false, .slice none 0 0, .slice none 0 0] 60) := ⟨_, rfl⟩
        have HW0 : Hid (w.alloc (.cells #[.int .i64 0, .bool false, .slice none 0 0, .slice none 0 0] 60) = W0) := hW0.symm
        have HBW : Hid (Below w.heap.size w W0) := by rw [hW0]; exact one_new _
        have HQ : Hid (Qd W0 w.heap.size (.int .i64 0) (.bool false) (.slice none 0 0) (.slice none 0 0)) := by rw [hW0]; exact Qd.new _ _ _ _ _ _
        have HUP : Hid (∀ w', Below W0.heap.size W0 w' → Below w.heap.size w w') := fun w' h => by rw [hW0] at h; exact below_after h
        clear hW0
        go_enter Try.func37, Try.ntmps37
        go_wp2
        rename_i Q0
        have HQQ : Hid (∀ a' w', bodyPost Try.prog Try.f37 (fun e w' => ClashAns w 9 false P Q e w') .ret a' w' → Q0 .ret a' w') := fun _ _ h => h
        clear_value Q0
        refine wp_scope_good 0 rfl ?_
        intro G hin hout
        clear hin hout
        go_wp2_with fail
        refine (hF _ (one_new _)).mono ?_
        rintro e w1 ⟨rfl, hb1⟩
        rw [HW0.out] at hb1
        clear hF
        go_wp2_with fail
        refine (HM _ (HUP.out _ hb1)).mono ?_
        rintro e w2 ⟨rfl, hb2⟩
        have hB2 := below_after_of (below_after_of hb1 hb2) (one_new (.cells #[.int .i64 0, .int .i64 ct] 38))
        have g2 := two_cellsV (heap_alloc_new w2 (.cells #[.int .i64 0, .int .i64 ct] 38))
        obtain ⟨W2, hW2⟩ : ∃ W2, W2 = w2.alloc (.cells #[.int .i64 0, .int .i64 ct] 38) := ⟨_, rfl⟩
        rw [← hW2] at hB2 g2
        have hlt2 : w2.heap.size < W2.heap.size := by rw [hW2]; simp
        have HW2 : Hid (w2.alloc (.cells #[.int .i64 0, .int .i64 ct] 38) = W2) := hW2.symm
        have HG : Hid (∀ w', Below W2.heap.size W2 w' → w'.cell? ⟨w2.heap.size, 0, none⟩ = some (.int .i64 0) ∧ w'.cell? ⟨w2.heap.size, 1, none⟩ = some (.int .i64 ct)) := fun w' h => ⟨(h.cell (p := ⟨w2.heap.size, 0, none⟩) hlt2).trans g2.1, (h.cell (p := ⟨w2.heap.size, 1, none⟩) hlt2).trans g2.2.1⟩
        clear HM hb1 hb2 hW2 hlt2 g2
        go_wp2
        rw [HW2.out]
        have cR0 := (HG.out _ (Below.refl _ _)).1
        have cR1 := (HG.out _ (Below.refl _ _)).2
        have hBB : Below w.heap.size w W2 := HUP.out _ hB2
        go_region_held3 (fun w' => w'.cell? ⟨w2.heap.size, 0, none⟩ = some (.int .i64 0) ∧ w'.cell? ⟨w2.heap.size, 1, none⟩ = some (.int .i64 ct))
          (first | exact ⟨cR0, cR1⟩ | exact HG.out _ hbr)
          (first | (go_at_call 34; refine (hR _ (hBB.drew)).mono ?_; rintro e wq ⟨rfl, hbq⟩; have hbr : Below W2.heap.size W2 wq := below_after_of (Below.refl _ _).drew hbq; have hR0 := (HG.out _ hbr).1; have hR1 := (HG.out _ hbr).2; clear hbq))
        have hB3 := below_after_of hB2 hbr
        obtain ⟨q0, q1, q2, q3, f0, f1, f2, f3, -⟩ := HQ.out.below hB3
        have HB5 := HUP.out _ hB3
        clear hbr hBB hB2 cR0 cR1 hR HG hB3
        go_wp2
        show Q0 .ret _ _
        refine HQQ.out _ _ ?_
        exact bodyPost_ret (v := .agg #[.int .i64 9, .bool false, .slice none 0 0, .slice none 0 0]) (by simp [results, Try.results37, go_sem, q0, q1, q2, q3]) rfl ⟨(((HB5.setCell (Nat.le_refl _) _).setCell (Nat.le_refl _) _).setCell (Nat.le_refl _) _).setCell (Nat.le_refl _) _, _, _, rfl, Rows2.nil _ _ _ _⟩
    · rw [(oc_told h0 hc).1, (oc_told h0 hc).2]
      have hcn : ¬ coC x b y p = 0 := hc
      generalize (ocP l x b y p).1 = P at *
      generalize (ocP l x b y p).2 = Q at *
      generalize coC x b y p = cc at *
      generalize coV x b y p = ct at *
      subst hve hpe
      generalize p.length = pn at *
      generalize l.length = n at *
      clear hv hvk hp hc h0
      obtain ⟨W0, hW0⟩ : ∃ W0, W0 = w.alloc (.cells #[.int .i64 0, .bool false, .slice none 0 0, .slice none 0 0] 60) := ⟨_, rfl⟩
      have HW0 : Hid (w.alloc (.cells #[.int .i64 0, .bool false, .slice none 0 0, .slice none 0 0] 60) = W0) := hW0.symm
      have HBW : Hid (Below w.heap.size w W0) := by rw [hW0]; exact one_new _
      have HQ : Hid (Qd W0 w.heap.size (.int .i64 0) (.bool false) (.slice none 0 0) (.slice none 0 0)) := by rw [hW0]; exact Qd.new _ _ _ _ _ _
      have HUP : Hid (∀ w', Below W0.heap.size W0 w' → Below w.heap.size w w') := fun w' h => by rw [hW0] at h; exact below_after h
      clear hW0
      go_enter Try.func37, Try.ntmps37
      go_wp2
      rename_i Q0
      have HQQ : Hid (∀ a' w', bodyPost Try.prog Try.f37 (fun e w' => ClashAns w cc false P Q e w') .ret a' w' → Q0 .ret a' w') := fun _ _ h => h
      clear_value Q0
      refine wp_scope_good 0 rfl ?_
      intro G hin hout
      clear hin hout
      go_wp2_with fail
      refine (hF _ (one_new _)).mono ?_
      rintro e w1 ⟨rfl, hb1⟩
      rw [HW0.out] at hb1
      clear hF
      go_wp2_with fail
      refine (HM _ (HUP.out _ hb1)).mono ?_
      rintro e w2 ⟨rfl, hb2⟩
      have hB2 := below_after_of (below_after_of hb1 hb2) (one_new (.cells #[.int .i64 cc, .int .i64 ct] 38))
      have g2 := two_cellsV (heap_alloc_new w2 (.cells #[.int .i64 cc, .int .i64 ct] 38))
      obtain ⟨W2, hW2⟩ : ∃ W2, W2 = w2.alloc (.cells #[.int .i64 cc, .int .i64 ct] 38) := ⟨_, rfl⟩
      rw [← hW2] at hB2 g2
      have hlt2 : w2.heap.size < W2.heap.size := by rw [hW2]; simp
      have HW2 : Hid (w2.alloc (.cells #[.int .i64 cc, .int .i64 ct] 38) = W2) := hW2.symm
      obtain ⟨q0, q1, q2, q3, f0, f1, f2, f3, -⟩ := HQ.out.below hB2
      have HB5 := HUP.out _ hB2
      rw [← HW2.out] at q0 q1 q2 q3 f0 f1 f2 f3 HB5
      clear HM hb1 hb2 hW2 hlt2 g2 hB2
      go_wp2
      show Q0 .ret _ _
      refine HQQ.out _ _ ?_
      exact bodyPost_ret (v := .agg #[.int .i64 cc, .bool false, .slice none 0 0, .slice none 0 0]) (by simp [results, Try.results37, go_sem, q0, q1, q2, q3]) rfl ⟨(((HB5.setCell (Nat.le_refl _) _).setCell (Nat.le_refl _) _).setCell (Nat.le_refl _) _).setCell (Nat.le_refl _) _, _, _, rfl, Rows2.nil _ _ _ _⟩
  · rw [(oc_slots h0).1, (oc_slots h0).2]
    have hsn : ¬ slF l = 0 := h0
    generalize (ocP l x b y p).1 = P at *
    generalize (ocP l x b y p).2 = Q at *
    generalize slF l = sf at *
    subst hve hpe
    generalize p.length = pn at *
    generalize l.length = n at *
    clear hv hvk hp h0 HM
    obtain ⟨W0, hW0⟩ : ∃ W0, W0 = w.alloc (.cells #[.int .i64 0, .bool false, .slice none 0 0, .slice none 0 0] 60) := ⟨_, rfl⟩
    have HW0 : Hid (w.alloc (.cells #[.int .i64 0, .bool false, .slice none 0 0, .slice none 0 0] 60) = W0) := hW0.symm
    have HBW : Hid (Below w.heap.size w W0) := by rw [hW0]; exact one_new _
    have HQ : Hid (Qd W0 w.heap.size (.int .i64 0) (.bool false) (.slice none 0 0) (.slice none 0 0)) := by rw [hW0]; exact Qd.new _ _ _ _ _ _
    have HUP : Hid (∀ w', Below W0.heap.size W0 w' → Below w.heap.size w w') := fun w' h => by rw [hW0] at h; exact below_after h
    clear hW0
    go_enter Try.func37, Try.ntmps37
    go_wp2
    rename_i Q0
    have HQQ : Hid (∀ a' w', bodyPost Try.prog Try.f37 (fun e w' => ClashAns w sf false P Q e w') .ret a' w' → Q0 .ret a' w') := fun _ _ h => h
    clear_value Q0
    refine wp_scope_good 0 rfl ?_
    intro G hin hout
    clear hin hout
    go_wp2_with fail
    refine (hF _ (one_new _)).mono ?_
    rintro e w1 ⟨rfl, hb1⟩
    rw [HW0.out] at hb1
    clear hF
    obtain ⟨q0, q1, q2, q3, f0, f1, f2, f3, -⟩ := HQ.out.below hb1
    have HB5 := HUP.out _ hb1
    clear hb1
    go_wp2
    show Q0 .ret _ _
    refine HQQ.out _ _ ?_
    exact bodyPost_ret (v := .agg #[.int .i64 sf, .bool false, .slice none 0 0, .slice none 0 0]) (by simp [results, Try.results37, go_sem, q0, q1, q2, q3]) rfl ⟨(((HB5.setCell (Nat.le_refl _) _).setCell (Nat.le_refl _) _).setCell (Nat.le_refl _) _).setCell (Nat.le_refl _) _, _, _, rfl, Rows2.nil _ _ _ _⟩
end U
end Go.Proofs.Ytgflamlfplpfdaa
