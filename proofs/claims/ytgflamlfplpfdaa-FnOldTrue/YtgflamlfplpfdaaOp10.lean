/- OldClash, by the model. -/
import Derived.Test.YtgflamlfplpfdaaOp9
namespace Go.Proofs.Ytgflamlfplpfdaa
open Go.RowKit
namespace U
theorem own_okv1 {w : World} {B : Nat} {e : TypeId} {v : Value} {m : Nat} {xs : List Value} (h : w.ownsRow B e 1 v m xs) : Okv v := by
  intro a n c hv
  subst hv
  rcases h.2 with ⟨h1, _⟩ | ⟨g, cap, cur, h1, _, _, hc, _⟩
  · cases h1; exact ⟨Nat.le_refl _, fun _ => rfl⟩
  · cases h1; exact ⟨by omega, fun e => by cases e⟩
theorem oc_bts {l : Prl} {x s : Int} {p a b : List Int} (h0 : 0 ≤ s ∧ s ≤ 65520) (hp : p.all sumB = true) (ha : Bts a) (hb : Bts b) : ∀ n, Bts (ocW l x s p a b n).1 ∧ Bts (ocW l x s p a b n).2 := by
  intro n
  induction n with
  | zero => exact ⟨ha, hb⟩
  | succ n ih =>
    rw [ocW]
    split
    · exact ⟨ndP_bts h0 hp n, ndT_bts l x n⟩
    · exact ih
/-- Four cells of a block, that may be written. -/
structure Qd (w : World) (g : Nat) (x y z t : Value) : Prop where
  c0 : w.cell? ⟨g, 0, none⟩ = some x
  c1 : w.cell? ⟨g, 1, none⟩ = some y
  c2 : w.cell? ⟨g, 2, none⟩ = some z
  c3 : w.cell? ⟨g, 3, none⟩ = some t
  f0 : w.frozen? ⟨g, 0, none⟩ = false
  f1 : w.frozen? ⟨g, 1, none⟩ = false
  f2 : w.frozen? ⟨g, 2, none⟩ = false
  f3 : w.frozen? ⟨g, 3, none⟩ = false
  lt : g < w.heap.size
theorem Qd.new (w : World) (x y z u : Value) (t : TypeId) : Qd (w.alloc (.cells #[x, y, z, u] t)) w.heap.size x y z u := by
  obtain ⟨q0, q1, q2, q3, f0, f1, f2, f3⟩ := four_cells (heap_alloc_new w (.cells #[x, y, z, u] t))
  exact ⟨q0, q1, q2, q3, f0, f1, f2, f3, by simp⟩
theorem Qd.below {w w' : World} {g : Nat} {x y z t : Value} (h : Qd w g x y z t) (hb : Below w.heap.size w w') : Qd w' g x y z t :=
  ⟨(hb.cell (p := ⟨g, 0, none⟩) h.lt).trans h.c0, (hb.cell (p := ⟨g, 1, none⟩) h.lt).trans h.c1, (hb.cell (p := ⟨g, 2, none⟩) h.lt).trans h.c2, (hb.cell (p := ⟨g, 3, none⟩) h.lt).trans h.c3, (hb.frozen (p := ⟨g, 0, none⟩) h.lt).trans h.f0, (hb.frozen (p := ⟨g, 1, none⟩) h.lt).trans h.f1, (hb.frozen (p := ⟨g, 2, none⟩) h.lt).trans h.f2, (hb.frozen (p := ⟨g, 3, none⟩) h.lt).trans h.f3, Nat.lt_of_lt_of_le h.lt hb.size⟩
set_option maxRecDepth 100000 in
set_option maxHeartbeats 8000000 in
theorem specOldClash_any (v : Value) (l : Prl) (x : Int) (b : Bool) (y : Int) (pv : Value) (p : List Int) (w : World) (hv : Prs w v l) (hl : l.length ≤ 1048576) (hp : Ints .i64 w pv p) (hok : Okv pv) (hpx : p.length ≤ 1048576) :
    Calls Try.prog 42 #[v, .int .i64 x, .bool b, .int .i64 y, pv] w fun e w' => ClashAns w (ocC l x b y p) (ocF l x b y p) (ocP l x b y p).1 (ocP l x b y p).2 e w' := by
  have hF : ∀ w', Below w.heap.size w w' → Calls Try.prog 65 #[v] w' fun e w'' => e = .returned (.int .i64 (slF l)) ∧ Below w'.heap.size w' w'' := fun w' h => (l4Fault_any v l w' (hv.below h) (by omega)).mono fun e w'' ⟨h1, q, h2⟩ => ⟨h1, by rw [h2]; exact below_drewN (Below.refl _ _) q⟩
  have HM := fun w' h => specClimbOld_any x b y pv p w' (hp.below (w' := w') h) (by omega)
  obtain ⟨va, vc, hve⟩ := hv.shape
  obtain ⟨pa, pc, hpe⟩ := hp.shape
  by_cases h0 : slF l = 0
  · rw [h0] at hF
    by_cases hc : coC x b y p = 0
    · rw [hc] at HM
      obtain ⟨ha, h8, hs⟩ := co_zero hc
      have hsl := slF_ok h0
      have hR := fun w' h => l4Root_any v l w' (hv.below h) hl hsl.fin
      by_cases hr : coV x b y p = nd l 8 0
      · have hL := fun w => l5Leaf_any x b y w ha
        have HC : Hid (∀ u w', Below w.heap.size w w' → w'.ownsRow 0 5 1 u (leafL x b y).length ((leafL x b y).map (Value.int .u8)) → Calls Try.prog 89 #[v, .int .i64 x, u, pv] w' fun e w'' => ClAns w' (l2B (ocP l x b y p).1 (ocP l x b y p).2) (ocP l x b y p).1 (ocP l x b y p).2 e w'') :=
          fun u w' h h' => l5Clash_any 0 v l x u (leafL x b y) pv p w' (hv.below h) h0 (askd_key ha) h' (leafL_bts ha) (by have := leafL_len x b y; omega) (hp.below h) hok h8 hs
        rw [(oc_ok h0 hc hr).1, (oc_ok h0 hc hr).2]
        rw [hr] at HM
        generalize leafL x b y = ls at *
        generalize ocP l x b y p = pq at *
        obtain ⟨P, Q⟩ := pq
        dsimp only at HC ⊢
        generalize l2B P Q = f at *
        generalize nd l 8 0 = rt at *
        subst hve hpe
        generalize p.length = pn at *
        generalize l.length = n at *
        have hrr : (rt == rt) = true := by simp
        have hrn : (rt != rt) = false := by simp
        obtain ⟨W0, hW0⟩ : ∃ W0, W0 = w.alloc (.cells #[.int .i64 0, .bool false, .slice none 0 0, .slice none 0 0] 60) := ⟨_, rfl⟩
        have HW0 : Hid (w.alloc (.cells #[.int .i64 0, .bool false, .slice none 0 0, .slice none 0 0] 60) = W0) := hW0.symm
        have HBW : Hid (Below w.heap.size w W0) := by rw [hW0]; exact one_new _
        have HQ : Hid (Qd W0 w.heap.size (.int .i64 0) (.bool false) (.slice none 0 0) (.slice none 0 0)) := by rw [hW0]; exact Qd.new _ _ _ _ _ _
        have HUP : Hid (∀ w', Below W0.heap.size W0 w' → Below w.heap.size w w') := fun w' h => by rw [hW0] at h; exact below_after h
        have HSZ : Hid (w.heap.size + 1 = W0.heap.size) := by show _ = _; rw [hW0]; simp
        clear hv hp hok h8 hs hc hr ha h0 hsl hl hpx hW0
        go_enter Try.func42, Try.ntmps42
        go_wp2_with fail
        refine (hF _ (one_new _)).mono ?_
        rintro e w1 ⟨rfl, hb1⟩
        rw [HW0.out] at hb1
        clear hF
        go_wp2_with fail
        refine (HM _ (HUP.out _ hb1)).mono ?_
        rintro e w2 ⟨rfl, hb2⟩
        have hB2 := below_after_of (below_after_of hb1 hb2) (one_new (.cells #[.int .i64 0, .int .i64 rt] 38))
        have g2 := two_cellsV (heap_alloc_new w2 (.cells #[.int .i64 0, .int .i64 rt] 38))
        obtain ⟨W2, hW2⟩ : ∃ W2, W2 = w2.alloc (.cells #[.int .i64 0, .int .i64 rt] 38) := ⟨_, rfl⟩
        rw [← hW2] at hB2 g2
        have hlt2 : w2.heap.size < W2.heap.size := by rw [hW2]; simp
        have HW2 : Hid (w2.alloc (.cells #[.int .i64 0, .int .i64 rt] 38) = W2) := hW2.symm
        have HG : Hid (∀ w', Below W2.heap.size W2 w' → w'.cell? ⟨w2.heap.size, 1, none⟩ = some (.int .i64 rt)) := fun w' h => (h.cell (p := ⟨w2.heap.size, 1, none⟩) hlt2).trans g2.2.1
        clear HM hb1 hb2 hW2 hlt2 g2
        go_wp2
        rw [HW2.out]
        have cR := HG.out _ (Below.refl _ _)
        have hBB : Below w.heap.size w W2 := HUP.out _ hB2
        go_region_held3 (fun w' => w'.cell? ⟨w2.heap.size, 1, none⟩ = some (.int .i64 rt))
          (first | exact cR | exact HG.out _ hbr)
          (first | (go_at_call 77; refine (hR _ (hBB.drew)).mono ?_; rintro e wq ⟨rfl, hbq⟩; have hbr : Below W2.heap.size W2 wq := below_after_of (Below.refl _ _).drew hbq; clear hbq))
        have hB3 := below_after_of hB2 hbr
        clear hbr hBB hB2 cR hR HG
        go_wp2_with fail
        refine (hL _).mono ?_
        rintro e w4 ⟨v', rfl, own4, hb4⟩
        have hB4 := below_after_of hB3 hb4
        obtain ⟨a4, c4, rfl⟩ := own_shape own4
        have hC := HC.out _ _ (HUP.out _ hB4) (own_mono own4 (Nat.zero_le _))
        generalize ls.length = m at *
        clear hL hb4 own4 HC
        go_wp2_with fail
        refine hC.mono ?_
        rintro e w5 ⟨hb5, a1, n1, c1, a2, n2, c2, rfl, hr⟩
        have hB5 := below_after_of hB4 hb5
        obtain ⟨q0, q1, q2, q3, f0, f1, f2, f3, -⟩ := HQ.out.below hB5
        have HR : Hid (Rows2 W0 w5 (.slice a1 n1 c1) (.slice a2 n2 c2) f P Q) := hr.mono hB4.size
        have HB5 := HUP.out _ hB5
        have hlt : w.heap.size < W0.heap.size := by rw [← HSZ.out]; omega
        clear hC hb5 hr hB5 hB4 hB3
        go_wp2
        exact bodyPost_ret (v := .agg #[.int .i64 0, .bool f, .slice a1 n1 c1, .slice a2 n2 c2]) (by simp [results, Try.results42, go_sem, q0, q1, q2, q3]) rfl
          ⟨(((HB5.setCell (Nat.le_refl _) _).setCell (Nat.le_refl _) _).setCell (Nat.le_refl _) _).setCell (Nat.le_refl _) _, _, _, rfl, (((((HR.out.set hlt 0 _).set hlt 1 _).set hlt 2 _)).set hlt 3 _).mono HBW.out.size⟩
      · rw [(oc_root h0 hc hr).1, (oc_root h0 hc hr).2]
        have hrn : ¬ coV x b y p = nd l 8 0 := hr
        generalize (ocP l x b y p).1 = P at *
        generalize (ocP l x b y p).2 = Q at *
        generalize coV x b y p = ct at *
        generalize nd l 8 0 = rt at *
        subst hve hpe
        generalize p.length = pn at *
        generalize l.length = n at *
        clear hv hp hok h8 hs hc ha h0 hsl hl hpx hr
        obtain ⟨W0, hW0⟩ : ∃ W0, W0 = w.alloc (.cells #[.int .i64 0, .bool false, .slice none 0 0, .slice none 0 0] 60) := ⟨_, rfl⟩
        have HW0 : Hid (w.alloc (.cells #[.int .i64 0, .bool false, .slice none 0 0, .slice none 0 0] 60) = W0) := hW0.symm
        have HBW : Hid (Below w.heap.size w W0) := by rw [hW0]; exact one_new _
        have HQ : Hid (Qd W0 w.heap.size (.int .i64 0) (.bool false) (.slice none 0 0) (.slice none 0 0)) := by rw [hW0]; exact Qd.new _ _ _ _ _ _
        have HUP : Hid (∀ w', Below W0.heap.size W0 w' → Below w.heap.size w w') := fun w' h => by rw [hW0] at h; exact below_after h
        clear hW0
        go_enter Try.func42, Try.ntmps42
        go_wp2_with fail
        refine (hF _ (one_new _)).mono ?_
        rintro e w1 ⟨rfl, hb1⟩
        rw [HW0.out] at hb1
        clear hF
        go_wp2_with fail
        refine (HM _ (HUP.out _ hb1)).mono ?_
        rintro e w2 ⟨rfl, hb2⟩
        have hB2 := below_after_of (below_after_of hb1 hb2) (one_new (.cells #[.int .i64 0, .int .i64 ct] 38))
        have g2 := two_cellsV (heap_alloc_new w2 (.cells #[.int .i64 0, .int .i64 ct] 38))
        obtain ⟨W2, hW2⟩ : ∃ W2, W2 = w2.alloc (.cells #[.int .i64 0, .int .i64 ct] 38) := ⟨_, rfl⟩
        rw [← hW2] at hB2 g2
        have hlt2 : w2.heap.size < W2.heap.size := by rw [hW2]; simp
        have HW2 : Hid (w2.alloc (.cells #[.int .i64 0, .int .i64 ct] 38) = W2) := hW2.symm
        have HG : Hid (∀ w', Below W2.heap.size W2 w' → w'.cell? ⟨w2.heap.size, 1, none⟩ = some (.int .i64 ct)) := fun w' h => (h.cell (p := ⟨w2.heap.size, 1, none⟩) hlt2).trans g2.2.1
        clear HM hb1 hb2 hW2 hlt2 g2
        go_wp2
        rw [HW2.out]
        have cR := HG.out _ (Below.refl _ _)
        have hBB : Below w.heap.size w W2 := HUP.out _ hB2
        go_region_held3 (fun w' => w'.cell? ⟨w2.heap.size, 1, none⟩ = some (.int .i64 ct))
          (first | exact cR | exact HG.out _ hbr)
          (first | (go_at_call 77; refine (hR _ (hBB.drew)).mono ?_; rintro e wq ⟨rfl, hbq⟩; have hbr : Below W2.heap.size W2 wq := below_after_of (Below.refl _ _).drew hbq; clear hbq))
        have hB3 := below_after_of hB2 hbr
        obtain ⟨q0, q1, q2, q3, f0, f1, f2, f3, -⟩ := HQ.out.below hB3
        have HB5 := HUP.out _ hB3
        clear hbr hBB hB2 cR hR HG hB3
        go_wp2
        exact bodyPost_ret (v := .agg #[.int .i64 9, .bool false, .slice none 0 0, .slice none 0 0]) (by simp [results, Try.results42, go_sem, q0, q1, q2, q3]) rfl ⟨(((HB5.setCell (Nat.le_refl _) _).setCell (Nat.le_refl _) _).setCell (Nat.le_refl _) _).setCell (Nat.le_refl _) _, _, _, rfl, Rows2.nil _ _ _ _⟩
    · rw [(oc_told h0 hc).1, (oc_told h0 hc).2]
      have hcn : ¬ coC x b y p = 0 := hc
      generalize (ocP l x b y p).1 = P at *
      generalize (ocP l x b y p).2 = Q at *
      generalize coC x b y p = cc at *
      generalize coV x b y p = ct at *
      subst hve hpe
      generalize p.length = pn at *
      generalize l.length = n at *
      clear hv hp hok hc h0 hl hpx
      obtain ⟨W0, hW0⟩ : ∃ W0, W0 = w.alloc (.cells #[.int .i64 0, .bool false, .slice none 0 0, .slice none 0 0] 60) := ⟨_, rfl⟩
      have HW0 : Hid (w.alloc (.cells #[.int .i64 0, .bool false, .slice none 0 0, .slice none 0 0] 60) = W0) := hW0.symm
      have HBW : Hid (Below w.heap.size w W0) := by rw [hW0]; exact one_new _
      have HQ : Hid (Qd W0 w.heap.size (.int .i64 0) (.bool false) (.slice none 0 0) (.slice none 0 0)) := by rw [hW0]; exact Qd.new _ _ _ _ _ _
      have HUP : Hid (∀ w', Below W0.heap.size W0 w' → Below w.heap.size w w') := fun w' h => by rw [hW0] at h; exact below_after h
      clear hW0
      go_enter Try.func42, Try.ntmps42
      go_wp2_with fail
      refine (hF _ (one_new _)).mono ?_
      rintro e w1 ⟨rfl, hb1⟩
      rw [HW0.out] at hb1
      clear hF
      go_wp2_with fail
      refine (HM _ (HUP.out _ hb1)).mono ?_
      rintro e w2 ⟨rfl, hb2⟩
      have hB2 := below_after_of (below_after_of hb1 hb2) (one_new (.cells #[.int .i64 cc, .int .i64 ct] 38))
      have g2 := two_cellsV (heap_alloc_new w2 (.cells #[.int .i64 cc, .int .i64 ct] 38))
      obtain ⟨W2, hW2⟩ : ∃ W2, W2 = w2.alloc (.cells #[.int .i64 cc, .int .i64 ct] 38) := ⟨_, rfl⟩
      rw [← hW2] at hB2 g2
      have hlt2 : w2.heap.size < W2.heap.size := by rw [hW2]; simp
      have HW2 : Hid (w2.alloc (.cells #[.int .i64 cc, .int .i64 ct] 38) = W2) := hW2.symm
      have c0 := g2.1
      obtain ⟨q0, q1, q2, q3, f0, f1, f2, f3, -⟩ := HQ.out.below hB2
      have HB5 := HUP.out _ hB2
      rw [← HW2.out] at q0 q1 q2 q3 f0 f1 f2 f3 HB5
      clear HM hb1 hb2 hW2 hlt2 g2 hB2 c0
      go_wp2
      exact bodyPost_ret (v := .agg #[.int .i64 cc, .bool false, .slice none 0 0, .slice none 0 0]) (by simp [results, Try.results42, go_sem, q0, q1, q2, q3]) rfl ⟨(((HB5.setCell (Nat.le_refl _) _).setCell (Nat.le_refl _) _).setCell (Nat.le_refl _) _).setCell (Nat.le_refl _) _, _, _, rfl, Rows2.nil _ _ _ _⟩
  · rw [(oc_slots h0).1, (oc_slots h0).2]
    have hsn : ¬ slF l = 0 := h0
    generalize (ocP l x b y p).1 = P at *
    generalize (ocP l x b y p).2 = Q at *
    generalize slF l = sf at *
    subst hve hpe
    generalize p.length = pn at *
    generalize l.length = n at *
    clear hv hp hok h0 hl hpx HM
    obtain ⟨W0, hW0⟩ : ∃ W0, W0 = w.alloc (.cells #[.int .i64 0, .bool false, .slice none 0 0, .slice none 0 0] 60) := ⟨_, rfl⟩
    have HW0 : Hid (w.alloc (.cells #[.int .i64 0, .bool false, .slice none 0 0, .slice none 0 0] 60) = W0) := hW0.symm
    have HBW : Hid (Below w.heap.size w W0) := by rw [hW0]; exact one_new _
    have HQ : Hid (Qd W0 w.heap.size (.int .i64 0) (.bool false) (.slice none 0 0) (.slice none 0 0)) := by rw [hW0]; exact Qd.new _ _ _ _ _ _
    have HUP : Hid (∀ w', Below W0.heap.size W0 w' → Below w.heap.size w w') := fun w' h => by rw [hW0] at h; exact below_after h
    clear hW0
    go_enter Try.func42, Try.ntmps42
    go_wp2_with fail
    refine (hF _ (one_new _)).mono ?_
    rintro e w1 ⟨rfl, hb1⟩
    rw [HW0.out] at hb1
    clear hF
    obtain ⟨q0, q1, q2, q3, f0, f1, f2, f3, -⟩ := HQ.out.below hb1
    have HB5 := HUP.out _ hb1
    clear hb1
    go_wp2
    exact bodyPost_ret (v := .agg #[.int .i64 sf, .bool false, .slice none 0 0, .slice none 0 0]) (by simp [results, Try.results42, go_sem, q0, q1, q2, q3]) rfl ⟨(((HB5.setCell (Nat.le_refl _) _).setCell (Nat.le_refl _) _).setCell (Nat.le_refl _) _).setCell (Nat.le_refl _) _, _, _, rfl, Rows2.nil _ _ _ _⟩
end U
end Go.Proofs.Ytgflamlfplpfdaa
