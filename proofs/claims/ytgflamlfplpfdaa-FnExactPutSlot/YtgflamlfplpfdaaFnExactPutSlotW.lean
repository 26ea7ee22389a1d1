/- The law on PutSlot, walked: true, and nothing that was there has turned. -/
import Derived.Test.YtgflamlfplpfdaaSl17
import Derived.Test.YtgflamlfplpfdaaHeldBy
import Derived.Test.YtgflamlfplpfdaaEqR
namespace Go.Proofs.Ytgflamlfplpfdaa
open Go.RowKit
namespace U
/-- An answer that lies in a block that may be written. -/
structure PrIn (w : World) (g : Nat) (x y : Value) : Prop where
  c0 : w.cell? ⟨g, 0, none⟩ = some x
  c1 : w.cell? ⟨g, 1, none⟩ = some y
  f0 : w.frozen? ⟨g, 0, none⟩ = false
  f1 : w.frozen? ⟨g, 1, none⟩ = false
  lt : g < w.heap.size
theorem PrIn.new (w : World) : PrIn (w.alloc (.cells #[.int .i64 0, .slice none 0 0] 30)) w.heap.size (.int .i64 0) (.slice none 0 0) := by
  have h := two_cellsV (heap_alloc_new w (.cells #[.int .i64 0, .slice none 0 0] 30))
  exact ⟨h.1, h.2.1, h.2.2.1, h.2.2.2, by simp⟩
theorem PrIn.below {w w' : World} {g : Nat} {x y : Value} (h : PrIn w g x y) (hb : Below w.heap.size w w') : PrIn w' g x y :=
  ⟨(hb.cell (p := ⟨g, 0, none⟩) h.lt).trans h.c0, (hb.cell (p := ⟨g, 1, none⟩) h.lt).trans h.c1, (hb.frozen (p := ⟨g, 0, none⟩) h.lt).trans h.f0, (hb.frozen (p := ⟨g, 1, none⟩) h.lt).trans h.f1, Nat.lt_of_lt_of_le h.lt hb.size⟩
theorem PrIn.drew {w : World} {g : Nat} {x y : Value} (h : PrIn w g x y) : PrIn w.drew g x y := h.below (Below.refl _ _).drew
theorem PrIn.set {w : World} {g : Nat} {x y x' y' : Value} (h : PrIn w g x y) : Pair ((w.setCell ⟨g, 0, none⟩ x').setCell ⟨g, 1, none⟩ y') g x' y' := by
  refine ⟨by simpa using h.lt, ?_, ?_⟩
  · exact (World.cell?_setCell_other _ _ _ _ (by simp)).trans (World.cell?_setCell_same _ _ _ h.c0)
  · exact World.cell?_setCell_same _ _ _ ((World.cell?_setCell_other _ _ _ _ (by simp)).trans h.c1)
theorem ne_own1 {w w' : World} {g n : Nat} {x y v : Value} {e : TypeId} {xs : List Value} (G : PrIn w g x y) (h : w'.ownsRow w.heap.size e 2 v n xs) : ∀ k, v.ownBlock = some k → k ≠ g := fun k hk => by
  have h1 := (h.lt k hk).1
  have h2 := G.lt
  omega
theorem ne_own2 {v : Value} {m n : Nat} (L : ∀ k, v.ownBlock = some k → m ≤ k ∧ k < n) : ∀ k, v.ownBlock = some k → k ≠ n := fun k hk => by
  have := (L k hk).2
  omega
theorem Prs.set {w : World} {a : Option Addr} {n c : Nat} {l : Prl} (h : Prs w (.slice a n c) l) (g : Nat) (hg : ∀ k, (Value.slice a n c).ownBlock = some k → k ≠ g) {x y : Value} : Prs ((w.setCell ⟨g, 0, none⟩ x).setCell ⟨g, 1, none⟩ y) (.slice a n c) l := by
  rcases h with h | ⟨b, off, c', e, hlt, hc⟩
  · exact Or.inl h
  · cases e
    have hb : b ≠ g := hg b rfl
    refine Or.inr ⟨b, off, _, rfl, by simpa using hlt, fun j hj => ⟨?_, ?_⟩⟩
    · exact (World.cell?_setCell_other _ _ _ _ (fun h => hb (by first | exact congrArg Addr.block h | exact (congrArg Addr.block h).symm))).trans ((World.cell?_setCell_other _ _ _ _ (fun h => hb (by first | exact congrArg Addr.block h | exact (congrArg Addr.block h).symm))).trans (hc j hj).1)
    · exact (World.cell?_setCell_other _ _ _ _ (fun h => hb (by first | exact congrArg Addr.block h | exact (congrArg Addr.block h).symm))).trans ((World.cell?_setCell_other _ _ _ _ (fun h => hb (by first | exact congrArg Addr.block h | exact (congrArg Addr.block h).symm))).trans (hc j hj).2)
set_option maxRecDepth 100000 in
set_option maxHeartbeats 8000000 in
theorem fnExactPutSlot_small (v : Value) (l : Prl) (sk sv : Int) (w : World) (hv : Prs w v l) (hx : l.length ≤ 1048576) :
    Calls Try.prog 10 #[v, .agg #[.int .i64 sk, .int .i64 sv]] w fun e w' => e = .returned (.bool true) ∧ Below w.heap.size w w' := by
  obtain ⟨a, c, rfl⟩ := hv.shape
  have hZ := fun w => szSlotS_any a l.length c w (by unfold maxLen; omega)
  rw [if_pos hx] at hZ
  have hS := fun w u hu => specPutSlot_any u l sk sv w hu (by omega)
  have hI := fun w u hu ho => implPutSlot_any u l sk sv w hu ho (by omega)
  have hT := fun w (h : Prs w (.slice a l.length c) l) => toSlotS_any _ l w h hx
  have hTo := fun w => toSlot_any sk sv w
  have hlb : (psL l (sk, sv)).length ≤ 1048576 := Nat.le_trans (psL_len l (sk, sv)) (show 12 ≤ 1048576 by omega)
  have hM := fun B v k0 w h => markSlotS_any B v l k0 w h (by omega)
  have hE := fun v u w h1 h2 => eqSlotS_any v u l l w h1 h2 (by omega) (by omega)
  rw [decide_eq_true rfl] at hE
  have hz0 : ¬ ((1048576 - l.length : Int) < 0) := by omega
  generalize (1048576 - l.length : Int) = z at *
  generalize psC l (sk, sv) = code at *
  generalize psL l (sk, sv) = ys at *
  obtain ⟨n, hn⟩ : ∃ n, n = l.length := ⟨_, rfl⟩
  rw [← hn] at hx hv hT hM hZ ⊢
  have HN : Hid (n = l.length) := hn
  obtain ⟨gb, hgb⟩ : ∃ gb, gb = w.heap.size := ⟨_, rfl⟩
  obtain ⟨w0, hw0⟩ : ∃ w0, w0 = w.alloc (.cells #[.int .i64 sk, .int .i64 sv] 79) := ⟨_, rfl⟩
  have HW0 : Hid (Below w.heap.size w w0) := by rw [hw0]; exact one_new _
  have HV : Hid (∀ w', Below w0.heap.size w0 w' → Prs w' (.slice a n c) l) := fun w' h => (hv.below HW0.out).below h
  have HBX : Hid (∀ w', Below w0.heap.size w0 w' → w'.cell? ⟨gb, 0, none⟩ = some (.int .i64 sk) ∧ w'.cell? ⟨gb, 1, none⟩ = some (.int .i64 sv)) := fun w' h => by
    have h1 := two_cellsV (heap_alloc_new w (.cells #[.int .i64 sk, .int .i64 sv] 79))
    rw [← hw0, ← hgb] at h1
    have hlt : gb < w0.heap.size := by rw [hw0, hgb]; simp
    exact ⟨(h.cell (p := ⟨gb, 0, none⟩) hlt).trans h1.1, (h.cell (p := ⟨gb, 1, none⟩) hlt).trans h1.2.1⟩
  have HGB : Hid (w.heap.size = gb) := hgb.symm
  have HWW : Hid (w.alloc (.cells #[.int .i64 sk, .int .i64 sv] 79) = w0) := hw0.symm
  clear hn hv hgb hw0
  have hkn : decide (((1 + n * 2 : Nat) : Int) < 0) = false := by simp; omega
  have hln : decide (((1 + ys.length * 2 : Nat) : Int) < 0) = false := by simp; omega
  go_enter Try.func10, Try.ntmps10
  go_wp2_with fail
  refine (hZ _).mono ?_
  rintro e w0b ⟨rfl, rfl⟩
  rw [HWW.out, HGB.out]
  clear hZ
  go_wp2
  have q0 : ∀ w', Below w0.heap.size w0 w' → w'.cell? ⟨gb, 0, none⟩ = some (.int .i64 sk) := fun w' h => (HBX.out w' h).1
  have q1 : ∀ w', Below w0.heap.size w0 w' → w'.cell? ⟨gb, 1, none⟩ = some (.int .i64 sv) := fun w' h => (HBX.out w' h).2
  have HBW : Hid (Below w0.heap.size w0 w0) := Below.refl _ _
  refine Code.wp_mono (Q := fun e a' w' => e = Exit.normal ∧ ∃ (g : Nat) (a1 : Option Addr) (c1 : Nat) (a2 : Option Addr) (c2 : Nat), a' = { tmps := #[.slice a n c, .agg #[.int .i64 sk, .int .i64 sv], undef, .pointer (some ⟨gb, 0, none⟩), .bool false, .int .i64 z, .pointer (some ⟨g, 0, none⟩), undef, undef, undef, undef, undef, undef, .slice a n c, .int .i64 1048576, .int .i64 z, .int .i64 z, .bool (decide (z < 0)), .slice a n c, .slice a1 n c1, .agg #[.int .i64 sk, .int .i64 sv], .agg #[.int .i64 sk, .int .i64 sv], .agg #[.int .i64 code, .slice a2 ys.length c2], undef, undef, undef, undef, undef, undef, undef, undef, undef, undef, undef, undef, undef, undef, undef, undef, undef, undef, undef, undef, undef, undef, undef, undef, undef, undef, undef, undef, undef, undef, undef, undef, undef, undef, undef, undef, undef, undef, undef, undef, undef, undef, undef, undef, undef, undef, undef, undef, undef, undef, undef, undef, undef, undef], defers := [] } ∧ Pair w' g (.int .i64 code) (.slice a2 ys.length c2) ∧ Prs w' (.slice a2 ys.length c2) ys ∧ (∀ k, (Value.slice a2 ys.length c2).ownBlock = some k → w0.heap.size ≤ k ∧ k < w'.heap.size) ∧ Below w0.heap.size w0 w') ?tail ?reg
  case reg =>
    refine wp_region_held_drew (S := fun w' => Below w0.heap.size w0 w') (by kernel_rfl) ((Below.refl _ _).drew) (fun hHeld => ?_)
    refine h_take (i := 0) (d := some 18) (v := ?vr1) (by rfl) (by kernel_rfl) (by kernel_rfl) (by kernel_rfl) (fun _ _ _ h => (by cases h.1)) (by rfl) ?hyr1 hHeld ?restr1
    case hyr1 =>
      intro o ho
      simp only [List.getElem?_toArray, List.getElem?_cons_zero, Option.some.injEq] at ho
      subst ho
      intro w' hSw
      first | (go_simp; done) | (go_simp; with_reducible rfl)
    try simp only [Act.put, List.setIfInBounds_toArray, List.set_cons_zero, List.set_cons_succ]
    refine h_take (i := 2) (d := some 20) (v := ?vr2) (by rfl) (by kernel_rfl) (by kernel_rfl) (by kernel_rfl) (fun _ _ _ h => (by cases h.1)) (by rfl) ?hyr2 hHeld ?restr2
    case hyr2 =>
      intro o ho
      simp only [List.getElem?_toArray, List.getElem?_cons_succ, List.getElem?_cons_zero, Option.some.injEq] at ho
      subst ho
      intro w' hSw
      first | (go_simp; done) | (go_simp; with_reducible rfl)
    try simp only [Act.put, List.setIfInBounds_toArray, List.set_cons_zero, List.set_cons_succ]
    refine wpAnyH_ready (rs := [1, 5]) (by kernel_rfl) (by simp) ?_
    refine AllReadyH.cons rfl (fun K hK => ?_) (AllReadyH.cons rfl (fun K hK => ?_) AllReadyH.nil)
    · go_simp
      refine (hT _ (HV.out _ (below_after_of HBW.out hHeld))).mono ?_
      rintro e wq ⟨a1, c1, rfl, hbq, own1⟩
      have hq := below_after_of hHeld hbq
      try (have G := G.below hbq)
      have P1 := own_prs_n HN.out own1
      have K1 := own_okv own1
      clear own1
      refine hK.out _ _ ?_ (fun hHeld => ?_)
      · exact hq
      clear hK K
      try simp only [Act.put, List.setIfInBounds_toArray, List.set_cons_zero, List.set_cons_succ]
      refine wpAnyH_ready (rs := [3, 5]) (by kernel_rfl) (by simp) ?_
      refine AllReadyH.cons rfl (fun K hK => ?_) (AllReadyH.cons rfl (fun K hK => ?_) AllReadyH.nil)
      · go_simp
        refine (hTo _).mono ?_
        rintro e wq ⟨rfl, hbq⟩
        have hq := below_after_of hHeld hbq
        try (have G := G.below hbq)
        have P1 := P1.below hbq
        refine hK.out _ _ ?_ (fun hHeld => ?_)
        · exact hq
        clear hK K
        try simp only [Act.put, List.setIfInBounds_toArray, List.set_cons_zero, List.set_cons_succ]
        refine wpAnyH_ready (rs := [4, 5]) (by kernel_rfl) (by simp) ?_
        refine AllReadyH.cons rfl (fun K hK => ?_) (AllReadyH.cons rfl (fun K hK => ?_) AllReadyH.nil)
        · go_simp
          refine (hS _ _ P1).mono ?_
          intro e wq hqq
          obtain ⟨a2, c2, rfl, hbq, own2⟩ := hqq.use
          have hq := below_after_of hHeld hbq
          try (have hg2 := ne_own1 G own2)
          try (have G := G.below hbq)
          have I2 := own_prs own2
          have L2 : ∀ k, (Value.slice a2 ys.length c2).ownBlock = some k → w0.heap.size ≤ k ∧ k < wq.heap.size := fun k hk => ⟨Nat.le_trans hHeld.size (own2.lt k hk).1, (own2.lt k hk).2⟩
          clear own2 hqq
          refine hK.out _ _ ?_ (fun hHeld => ?_)
          · exact hq
          clear hK K
          try simp only [Act.put, List.setIfInBounds_toArray, List.set_cons_zero, List.set_cons_succ]
          refine wpAnyH_ready (rs := [5]) (by kernel_rfl) (by simp) ?_
          refine AllReadyH.cons rfl (fun K hK => ?_) AllReadyH.nil
          · go_simp
            first | (have G := PrIn.new wq; have hgg := hq.size) | (have G := (PrIn.new w0).drew; have hgg := Nat.le_refl w0.heap.size)
            try (have hg2 := ne_own2 L2; have I3 := I2)
            try (have P1 := P1.below (one_new (.cells #[.int .i64 0, .slice none 0 0] 30)))
            try (have I2 := I2.below (one_new (.cells #[.int .i64 0, .slice none 0 0] 30)))
            refine hK.out _ _ ?_ (fun hHeld => ?_)
            · exact below_after_of hHeld (one_new _)
            clear hK K
            try simp only [Act.put, List.setIfInBounds_toArray, List.set_cons_zero, List.set_cons_succ]
            have ⟨x0, x1, u0, u1, hgl⟩ := G
            refine wpAnyH_ready (rs := [6]) (by kernel_rfl) (by simp) ?_
            refine AllReadyH.cons rfl (fun K hK => ?_) AllReadyH.nil
            go_simp
            refine hK.out _ _ ?_ (fun hHeld => ?_)
            · first | exact (hHeld.setCell (by exact hgg) _).setCell (by exact hgg) _ | exact below_after_of hq (one_new _)
            clear hK K
            try simp only [Act.put, List.setIfInBounds_toArray, List.set_cons_zero, List.set_cons_succ]
            refine wpAnyH_done (by kernel_rfl) ?_ _
            refine ⟨rfl, _, a1, c1, a2, c2, rfl, ?_, ?_, ?_, hHeld⟩
            · first | exact PrIn.set G | exact Pair.new _ _ _ _
            · first | exact (I2.set _ hg2) | exact I3.below (one_new _)
            · exact fun k hk => ⟨(L2 k hk).1, by have := (L2 k hk).2; simp; omega⟩
        · go_simp
          first | (have G := PrIn.new wq; have hgg := hq.size) | (have G := (PrIn.new w0).drew; have hgg := Nat.le_refl w0.heap.size)
          try (have hg2 := ne_own2 L2; have I3 := I2)
          try (have P1 := P1.below (one_new (.cells #[.int .i64 0, .slice none 0 0] 30)))
          try (have I2 := I2.below (one_new (.cells #[.int .i64 0, .slice none 0 0] 30)))
          refine hK.out _ _ ?_ (fun hHeld => ?_)
          · exact below_after_of hHeld (one_new _)
          clear hK K
          try simp only [Act.put, List.setIfInBounds_toArray, List.set_cons_zero, List.set_cons_succ]
          refine wpAnyH_ready (rs := [4]) (by kernel_rfl) (by simp) ?_
          refine AllReadyH.cons rfl (fun K hK => ?_) AllReadyH.nil
          · go_simp
            refine (hS _ _ P1).mono ?_
            intro e wq hqq
            obtain ⟨a2, c2, rfl, hbq, own2⟩ := hqq.use
            have hq := below_after_of hHeld hbq
            try (have hg2 := ne_own1 G own2)
            try (have G := G.below hbq)
            have I2 := own_prs own2
            have L2 : ∀ k, (Value.slice a2 ys.length c2).ownBlock = some k → w0.heap.size ≤ k ∧ k < wq.heap.size := fun k hk => ⟨Nat.le_trans hHeld.size (own2.lt k hk).1, (own2.lt k hk).2⟩
            clear own2 hqq
            refine hK.out _ _ ?_ (fun hHeld => ?_)
            · exact hq
            clear hK K
            try simp only [Act.put, List.setIfInBounds_toArray, List.set_cons_zero, List.set_cons_succ]
            have ⟨x0, x1, u0, u1, hgl⟩ := G
            refine wpAnyH_ready (rs := [6]) (by kernel_rfl) (by simp) ?_
            refine AllReadyH.cons rfl (fun K hK => ?_) AllReadyH.nil
            go_simp
            refine hK.out _ _ ?_ (fun hHeld => ?_)
            · first | exact (hHeld.setCell (by exact hgg) _).setCell (by exact hgg) _ | exact below_after_of hq (one_new _)
            clear hK K
            try simp only [Act.put, List.setIfInBounds_toArray, List.set_cons_zero, List.set_cons_succ]
            refine wpAnyH_done (by kernel_rfl) ?_ _
            refine ⟨rfl, _, a1, c1, a2, c2, rfl, ?_, ?_, ?_, hHeld⟩
            · first | exact PrIn.set G | exact Pair.new _ _ _ _
            · first | exact (I2.set _ hg2) | exact I3.below (one_new _)
            · exact fun k hk => ⟨(L2 k hk).1, by have := (L2 k hk).2; simp; omega⟩
      · go_simp
        first | (have G := PrIn.new wq; have hgg := hq.size) | (have G := (PrIn.new w0).drew; have hgg := Nat.le_refl w0.heap.size)
        try (have hg2 := ne_own2 L2; have I3 := I2)
        try (have P1 := P1.below (one_new (.cells #[.int .i64 0, .slice none 0 0] 30)))
        try (have I2 := I2.below (one_new (.cells #[.int .i64 0, .slice none 0 0] 30)))
        refine hK.out _ _ ?_ (fun hHeld => ?_)
        · exact below_after_of hHeld (one_new _)
        clear hK K
        try simp only [Act.put, List.setIfInBounds_toArray, List.set_cons_zero, List.set_cons_succ]
        refine wpAnyH_ready (rs := [3]) (by kernel_rfl) (by simp) ?_
        refine AllReadyH.cons rfl (fun K hK => ?_) AllReadyH.nil
        · go_simp
          refine (hTo _).mono ?_
          rintro e wq ⟨rfl, hbq⟩
          have hq := below_after_of hHeld hbq
          try (have G := G.below hbq)
          have P1 := P1.below hbq
          refine hK.out _ _ ?_ (fun hHeld => ?_)
          · exact hq
          clear hK K
          try simp only [Act.put, List.setIfInBounds_toArray, List.set_cons_zero, List.set_cons_succ]
          refine wpAnyH_ready (rs := [4]) (by kernel_rfl) (by simp) ?_
          refine AllReadyH.cons rfl (fun K hK => ?_) AllReadyH.nil
          · go_simp
            refine (hS _ _ P1).mono ?_
            intro e wq hqq
            obtain ⟨a2, c2, rfl, hbq, own2⟩ := hqq.use
            have hq := below_after_of hHeld hbq
            try (have hg2 := ne_own1 G own2)
            try (have G := G.below hbq)
            have I2 := own_prs own2
            have L2 : ∀ k, (Value.slice a2 ys.length c2).ownBlock = some k → w0.heap.size ≤ k ∧ k < wq.heap.size := fun k hk => ⟨Nat.le_trans hHeld.size (own2.lt k hk).1, (own2.lt k hk).2⟩
            clear own2 hqq
            refine hK.out _ _ ?_ (fun hHeld => ?_)
            · exact hq
            clear hK K
            try simp only [Act.put, List.setIfInBounds_toArray, List.set_cons_zero, List.set_cons_succ]
            have ⟨x0, x1, u0, u1, hgl⟩ := G
            refine wpAnyH_ready (rs := [6]) (by kernel_rfl) (by simp) ?_
            refine AllReadyH.cons rfl (fun K hK => ?_) AllReadyH.nil
            go_simp
            refine hK.out _ _ ?_ (fun hHeld => ?_)
            · first | exact (hHeld.setCell (by exact hgg) _).setCell (by exact hgg) _ | exact below_after_of hq (one_new _)
            clear hK K
            try simp only [Act.put, List.setIfInBounds_toArray, List.set_cons_zero, List.set_cons_succ]
            refine wpAnyH_done (by kernel_rfl) ?_ _
            refine ⟨rfl, _, a1, c1, a2, c2, rfl, ?_, ?_, ?_, hHeld⟩
            · first | exact PrIn.set G | exact Pair.new _ _ _ _
            · first | exact (I2.set _ hg2) | exact I3.below (one_new _)
            · exact fun k hk => ⟨(L2 k hk).1, by have := (L2 k hk).2; simp; omega⟩
    · go_simp
      first | (have G := PrIn.new wq; have hgg := hq.size) | (have G := (PrIn.new w0).drew; have hgg := Nat.le_refl w0.heap.size)
      try (have hg2 := ne_own2 L2; have I3 := I2)
      try (have P1 := P1.below (one_new (.cells #[.int .i64 0, .slice none 0 0] 30)))
      try (have I2 := I2.below (one_new (.cells #[.int .i64 0, .slice none 0 0] 30)))
      refine hK.out _ _ ?_ (fun hHeld => ?_)
      · exact below_after_of hHeld (one_new _)
      clear hK K
      try simp only [Act.put, List.setIfInBounds_toArray, List.set_cons_zero, List.set_cons_succ]
      refine wpAnyH_ready (rs := [1]) (by kernel_rfl) (by simp) ?_
      refine AllReadyH.cons rfl (fun K hK => ?_) AllReadyH.nil
      · go_simp
        refine (hT _ (HV.out _ (below_after_of HBW.out hHeld))).mono ?_
        rintro e wq ⟨a1, c1, rfl, hbq, own1⟩
        have hq := below_after_of hHeld hbq
        try (have G := G.below hbq)
        have P1 := own_prs_n HN.out own1
        have K1 := own_okv own1
        clear own1
        refine hK.out _ _ ?_ (fun hHeld => ?_)
        · exact hq
        clear hK K
        try simp only [Act.put, List.setIfInBounds_toArray, List.set_cons_zero, List.set_cons_succ]
        refine wpAnyH_ready (rs := [3]) (by kernel_rfl) (by simp) ?_
        refine AllReadyH.cons rfl (fun K hK => ?_) AllReadyH.nil
        · go_simp
          refine (hTo _).mono ?_
          rintro e wq ⟨rfl, hbq⟩
          have hq := below_after_of hHeld hbq
          try (have G := G.below hbq)
          have P1 := P1.below hbq
          refine hK.out _ _ ?_ (fun hHeld => ?_)
          · exact hq
          clear hK K
          try simp only [Act.put, List.setIfInBounds_toArray, List.set_cons_zero, List.set_cons_succ]
          refine wpAnyH_ready (rs := [4]) (by kernel_rfl) (by simp) ?_
          refine AllReadyH.cons rfl (fun K hK => ?_) AllReadyH.nil
          · go_simp
            refine (hS _ _ P1).mono ?_
            intro e wq hqq
            obtain ⟨a2, c2, rfl, hbq, own2⟩ := hqq.use
            have hq := below_after_of hHeld hbq
            try (have hg2 := ne_own1 G own2)
            try (have G := G.below hbq)
            have I2 := own_prs own2
            have L2 : ∀ k, (Value.slice a2 ys.length c2).ownBlock = some k → w0.heap.size ≤ k ∧ k < wq.heap.size := fun k hk => ⟨Nat.le_trans hHeld.size (own2.lt k hk).1, (own2.lt k hk).2⟩
            clear own2 hqq
            refine hK.out _ _ ?_ (fun hHeld => ?_)
            · exact hq
            clear hK K
            try simp only [Act.put, List.setIfInBounds_toArray, List.set_cons_zero, List.set_cons_succ]
            have ⟨x0, x1, u0, u1, hgl⟩ := G
            refine wpAnyH_ready (rs := [6]) (by kernel_rfl) (by simp) ?_
            refine AllReadyH.cons rfl (fun K hK => ?_) AllReadyH.nil
            go_simp
            refine hK.out _ _ ?_ (fun hHeld => ?_)
            · first | exact (hHeld.setCell (by exact hgg) _).setCell (by exact hgg) _ | exact below_after_of hq (one_new _)
            clear hK K
            try simp only [Act.put, List.setIfInBounds_toArray, List.set_cons_zero, List.set_cons_succ]
            refine wpAnyH_done (by kernel_rfl) ?_ _
            refine ⟨rfl, _, a1, c1, a2, c2, rfl, ?_, ?_, ?_, hHeld⟩
            · first | exact PrIn.set G | exact Pair.new _ _ _ _
            · first | exact (I2.set _ hg2) | exact I3.below (one_new _)
            · exact fun k hk => ⟨(L2 k hk).1, by have := (L2 k hk).2; simp; omega⟩
  rintro _ _ W ⟨rfl, g2, b1, d1, b2, d2, rfl, P2, i2, hlt2, hB2⟩
  clear hS q0 q1 HBW
  dsimp only
  have hgW : g2 < W.heap.size := P2.1
  have hwW : w0.heap.size ≤ W.heap.size := hB2.size
  go_wp2_with fail
  -- the argument, copied
  refine (hT _ (HV.out _ hB2)).mono ?_
  rintro e w3 ⟨a3, c3, rfl, hb3, own3⟩
  have hB3 := below_after_of hB2 hb3
  have P2 := P2.below hb3
  have i2 := i2.below hb3
  have hlt3 : ∀ k, (Value.slice a3 n c3).ownBlock = some k → W.heap.size ≤ k ∧ k < w3.heap.size := fun k hk => own3.lt k hk
  have i3 := own_prs_n HN.out own3
  have ok3 := own_okv own3
  obtain ⟨s0, s1⟩ := HBX.out _ hB3
  have hW3 : W.heap.size ≤ w3.heap.size := hb3.size
  clear hB2 hb3
  go_wp2_with fail
  refine (hTo _).mono ?_
  rintro e w3b ⟨rfl, hbt⟩
  have hB3 := below_after_of hB3 hbt
  have P2 := P2.below hbt
  have i2 := i2.below hbt
  have i3 := i3.below hbt
  have own3 := own_below own3 hbt
  have hz3b : w3.heap.size ≤ w3b.heap.size := hbt.size
  clear hbt s0 s1
  go_wp2_with fail
  -- the program's answer
  refine (hI _ _ i3 ok3).mono ?_
  intro e w4 h4
  obtain ⟨a4, c4, rfl, hb4, own4⟩ := h4.use
  obtain ⟨W4, hW4⟩ : ∃ W4, W4 = w4.alloc (.cells #[.int .i64 code, .slice a4 ys.length c4] 30) := ⟨_, rfl⟩
  have hN4 : Below w4.heap.size w4 W4 := by rw [hW4]; exact one_new _
  have hB4 := below_after_of (below_after_of hB3 hb4) hN4
  have C4 : Hid (∀ w', Below W4.heap.size W4 w' → Pair w' g2 (.int .i64 code) (.slice b2 ys.length d2) ∧ Pair w' w4.heap.size (.int .i64 code) (.slice a4 ys.length c4) ∧ Prs w' (.slice b2 ys.length d2) ys ∧ w'.ownsRow w3b.heap.size 26 2 (.slice a4 ys.length c4) ys.length ((fl ys).map (Value.int .i64)) ∧ w'.ownsRow W.heap.size 26 2 (.slice a3 n c3) n ((fl l).map (Value.int .i64)) ∧ Below w0.heap.size w0 w' ∧ w4.heap.size < w'.heap.size) := by
    intro w' h
    have h0 := below_after_of hb4 hN4
    refine ⟨(P2.below h0).below h, ?_, (i2.below h0).below h, own_below (own_below own4 hN4) h, own_below (own_below own3 h0) h, below_after_of hB4 h, ?_⟩
    · rw [hW4] at h; exact (Pair.new w4 _ _ _).below h
    · have := h.size; rw [hW4] at this; simp at this; omega
  have hlt4 := fun k hk => own4.lt k hk
  have hz2 : g2 < w3.heap.size := by omega
  have hz3 : w3b.heap.size ≤ w4.heap.size := hb4.size
  have P2 := P2.below hb4
  have p0 := P2.2.1
  have p1 := P2.2.2
  have p2 := P2.1
  have HW4 : Hid (W4 = w4.alloc (.cells #[.int .i64 code, .slice a4 ys.length c4] 30)) := hW4
  clear h4 own3 own4 hb4 i3 hB3 hN4 P2 i2 hW4 hB4 ok3
  go_wp2_with fail
  rw [← HW4.out]
  clear p0 p1 HW4
  -- the two are the same
  obtain ⟨_, _, j2, j4, _, _, _⟩ := C4.out W4 (Below.refl _ _)
  refine (eqSlotsResult_same code _ _ ys _ (own_prs j4) j2 (by omega)).mono ?_
  rintro e w5 ⟨rfl, hb5⟩
  clear j2 j4
  have hB5 := (C4.out _ hb5).2.2.2.2.2.1
  go_wp2_with fail
  refine (hT _ (HV.out _ hB5)).mono ?_
  rintro e w6 ⟨a6, c6, rfl, hb6, own6⟩
  have hb6' := below_after_of hb5 hb6
  have j3 := (C4.out _ hb6').2.2.2.2.1
  go_wp2_with fail
  refine (hE _ _ _ (own_prs_n HN.out j3) (own_prs_n HN.out own6)).mono ?_
  rintro e w7 ⟨rfl, hbe⟩
  have hb7 := below_after_of hb6' hbe
  obtain ⟨Q2, Q4, j2, j4, j3, hB7, hz7⟩ := C4.out _ hb7
  clear own6 hb5 hb6 hb6' hB5 C4 hbe
  -- the argument is marked
  go_wp2_with fail
  refine (hM _ _ 1 _ j3 (by omega)).mono ?_
  rintro e w8 ⟨rfl, hg8, own8⟩
  have Q2 := Q2.grown hg8 (fun e => by have := hlt3 _ e.symm; omega)
  have Q4 := Q4.grown hg8 (fun e => by have := hlt3 _ e.symm; omega)
  have j2 := j2.grown hg8 (apart_lt (fun k hk j hj => by have := hlt2 k hk; have := hlt3 j hj; omega))
  have j4 := own_grown j4 hg8 (apart_gt (fun k hk j hj => by have := hlt4 k hk; have := hlt3 j hj; omega))
  have hB8 := hB7.grown hg8 hB7.size (fun k hk => by have := hlt3 k hk; omega)
  have hz8 : w4.heap.size < w8.heap.size := Nat.lt_of_lt_of_le hz7 hg8.size
  clear hg8 own8 j3 hB7 hz7 hlt3
  have p0 := Q2.2.1
  have p1 := Q2.2.2
  have p2 := Q2.1
  have p3 := Q4.2.1
  have p4 := Q4.2.2
  go_wp2_with fail
  -- the two are still the same
  refine (eqSlotsResult_same code _ _ ys _ (own_prs j4) j2 (by omega)).mono ?_
  rintro e w9 ⟨rfl, hb9⟩
  have Q2 := Q2.below hb9
  have Q4 := Q4.below hb9
  have j2 := j2.below hb9
  have j4 := own_below j4 hb9
  have hB9 := below_after_of hB8 hb9
  have hz9 : w4.heap.size < w9.heap.size := Nat.lt_of_lt_of_le hz8 hb9.size
  clear hb9 hB8 hz8 p0 p1 p2 p3 p4
  have p3 := Q4.2.1
  have p4 := Q4.2.2
  go_wp2_with fail
  -- the answer is marked
  refine (markSlotsResult_any w3b.heap.size code _ ys 1 _ j4 (by omega) (by omega)).mono ?_
  rintro e w10 ⟨rfl, hg10, own10⟩
  have Q2 := Q2.grown hg10 (fun e => by have := hlt4 _ e.symm; omega)
  have Q4 := Q4.grown hg10 (fun e => by have := hlt4 _ e.symm; omega)
  have j2 := j2.grown hg10 (apart_lt (fun k hk j hj => by have := hlt2 k hk; have := hlt4 j hj; omega))
  have hB10 := hB9.grown hg10 hB9.size (fun k hk => by have := hlt4 k hk; omega)
  have m10 : Prs w10 (.slice a4 ys.length c4) (mkP 1 ys.length) := own_prs_n (mkP_len _ _).symm own10
  have C10 : Hid (∀ w', Below w10.heap.size w10 w' → Pair w' g2 (.int .i64 code) (.slice b2 ys.length d2) ∧ Pair w' w4.heap.size (.int .i64 code) (.slice a4 ys.length c4) ∧ Prs w' (.slice b2 ys.length d2) ys ∧ Prs w' (.slice a4 ys.length c4) (mkP 1 ys.length) ∧ Below w0.heap.size w0 w') :=
    fun w' h => ⟨Q2.below h, Q4.below h, j2.below h, m10.below h, below_after_of hB10 h⟩
  clear hg10 own10 j4 hB9 hz9 hlt4 p3 p4 hlt2
  have p3 := Q4.2.1
  have p4 := Q4.2.2
  clear Q2 Q4 j2 hB10
  go_wp2_with fail
  refine (heldSlotsResult_any code _ ys.length 1 _ m10 (by omega) (by omega)).mono ?_
  rintro e w11 ⟨rfl, hb11⟩
  have hB11 := (C10.out _ hb11).2.2.2.2
  have HB11 : Hid (Below w10.heap.size w10 w11) := hb11
  clear p3 p4 m10 hb11
  go_wp2
  have q0 : ∀ w', Below w11.heap.size w11 w' → w'.cell? ⟨gb, 0, none⟩ = some (.int .i64 sk) := fun w' h => (HBX.out w' (below_after_of hB11 h)).1
  have q1 : ∀ w', Below w11.heap.size w11 w' → w'.cell? ⟨gb, 1, none⟩ = some (.int .i64 sv) := fun w' h => (HBX.out w' (below_after_of hB11 h)).2
  have HBW : Hid (Below w0.heap.size w0 w11) := hB11
  clear hB11
  refine Code.wp_mono (Q := fun e a' w' => e = Exit.normal ∧ ∃ (g : Nat) (a1 : Option Addr) (c1 : Nat) (a2 : Option Addr) (c2 : Nat), a' = { tmps := #[Value.slice a n c, Value.agg #[Value.int IntKind.i64 sk, Value.int IntKind.i64 sv], undef, Value.pointer (some { block := gb, off := 0 }), Value.bool false, Value.int IntKind.i64 z, Value.pointer (some { block := g2, off := 0 }), Value.slice a3 n c3, Value.pointer (some { block := w4.heap.size, off := 0 }), Value.int IntKind.i64 (1 + ↑n * 2), Value.int IntKind.i64 (1 + ↑(List.length ys) * 2), Value.int IntKind.i64 (1 + ↑(List.length ys) * 2), .pointer (some ⟨g, 0, none⟩), Value.slice a n c, Value.int IntKind.i64 1048576, Value.int IntKind.i64 z, Value.int IntKind.i64 z, Value.bool (decide (z < 0)), Value.slice a n c, Value.slice b1 n d1, Value.agg #[Value.int IntKind.i64 sk, Value.int IntKind.i64 sv], Value.agg #[Value.int IntKind.i64 sk, Value.int IntKind.i64 sv], Value.agg #[Value.int IntKind.i64 code, Value.slice b2 (List.length ys) d2], Value.slice a n c, Value.slice a3 n c3, Value.slice a3 n c3, Value.agg #[Value.int IntKind.i64 sk, Value.int IntKind.i64 sv], Value.agg #[Value.int IntKind.i64 sk, Value.int IntKind.i64 sv], Value.agg #[Value.int IntKind.i64 code, Value.slice a4 (List.length ys) c4], Value.agg #[Value.int IntKind.i64 code, Value.slice a4 (List.length ys) c4], Value.agg #[Value.int IntKind.i64 code, Value.slice b2 (List.length ys) d2], Value.bool true, Value.bool false, Value.slice a3 n c3, Value.slice a n c, Value.slice a6 n c6, Value.bool true, Value.bool false, Value.slice a3 n c3, Value.int IntKind.i64 1, Value.int IntKind.i64 (1 + ↑n * 2), Value.int IntKind.i64 (1 + ↑n * 2), Value.bool (decide (1 + ↑n * 2 < 0)), Value.bool (decide (1 + ↑n * 2 < 0)), Value.agg #[Value.int IntKind.i64 code, Value.slice a4 (List.length ys) c4], Value.agg #[Value.int IntKind.i64 code, Value.slice b2 (List.length ys) d2], Value.bool true, Value.bool false, Value.bool (decide (1 + ↑n * 2 < 0)), Value.agg #[Value.int IntKind.i64 code, Value.slice a4 (List.length ys) c4], Value.int IntKind.i64 1, Value.int IntKind.i64 (1 + ↑(List.length ys) * 2), Value.agg #[Value.int IntKind.i64 code, Value.slice a4 (List.length ys) c4], Value.int IntKind.i64 1, Value.int IntKind.i64 (1 + ↑(List.length ys) * 2), Value.int IntKind.i64 (1 + ↑(List.length ys) * 2), Value.bool (decide (1 + ↑(List.length ys) * 2 < 0)), Value.int IntKind.i64 (1 + ↑(List.length ys) * 2), Value.int IntKind.i64 (1 + ↑(List.length ys) * 2), Value.bool false, .slice a n c, .slice a1 n c1, .agg #[.int .i64 sk, .int .i64 sv], .agg #[.int .i64 sk, .int .i64 sv], .agg #[.int .i64 code, .slice a2 ys.length c2], undef, undef, undef, undef, undef, undef, undef, undef, undef, undef, undef, undef], defers := [] } ∧ Pair w' g (.int .i64 code) (.slice a2 ys.length c2) ∧ Prs w' (.slice a2 ys.length c2) ys ∧ (∀ k, (Value.slice a2 ys.length c2).ownBlock = some k → w11.heap.size ≤ k ∧ k < w'.heap.size) ∧ Below w11.heap.size w11 w') ?tail2 ?reg2
  case reg2 =>
    refine wp_region_held_drew (S := fun w' => Below w11.heap.size w11 w') (by kernel_rfl) ((Below.refl _ _).drew) (fun hHeld => ?_)
    refine h_take (i := 0) (d := some 60) (v := ?vs1) (by rfl) (by kernel_rfl) (by kernel_rfl) (by kernel_rfl) (fun _ _ _ h => (by cases h.1)) (by rfl) ?hys1 hHeld ?rests1
    case hys1 =>
      intro o ho
      simp only [List.getElem?_toArray, List.getElem?_cons_zero, Option.some.injEq] at ho
      subst ho
      intro w' hSw
      first | (go_simp; done) | (go_simp; with_reducible rfl)
    try simp only [Act.put, List.setIfInBounds_toArray, List.set_cons_zero, List.set_cons_succ]
    refine h_take (i := 2) (d := some 62) (v := ?vs2) (by rfl) (by kernel_rfl) (by kernel_rfl) (by kernel_rfl) (fun _ _ _ h => (by cases h.1)) (by rfl) ?hys2 hHeld ?rests2
    case hys2 =>
      intro o ho
      simp only [List.getElem?_toArray, List.getElem?_cons_succ, List.getElem?_cons_zero, Option.some.injEq] at ho
      subst ho
      intro w' hSw
      first | (go_simp; done) | (go_simp; with_reducible rfl)
    try simp only [Act.put, List.setIfInBounds_toArray, List.set_cons_zero, List.set_cons_succ]
    refine wpAnyH_ready (rs := [1, 5]) (by kernel_rfl) (by simp) ?_
    refine AllReadyH.cons rfl (fun K hK => ?_) (AllReadyH.cons rfl (fun K hK => ?_) AllReadyH.nil)
    · go_simp
      refine (hT _ (HV.out _ (below_after_of HBW.out hHeld))).mono ?_
      rintro e wq ⟨a1, c1, rfl, hbq, own1⟩
      have hq := below_after_of hHeld hbq
      try (have G := G.below hbq)
      have P1 := own_prs_n HN.out own1
      have K1 := own_okv own1
      clear own1
      refine hK.out _ _ ?_ (fun hHeld => ?_)
      · exact hq
      clear hK K
      try simp only [Act.put, List.setIfInBounds_toArray, List.set_cons_zero, List.set_cons_succ]
      refine wpAnyH_ready (rs := [3, 5]) (by kernel_rfl) (by simp) ?_
      refine AllReadyH.cons rfl (fun K hK => ?_) (AllReadyH.cons rfl (fun K hK => ?_) AllReadyH.nil)
      · go_simp
        refine (hTo _).mono ?_
        rintro e wq ⟨rfl, hbq⟩
        have hq := below_after_of hHeld hbq
        try (have G := G.below hbq)
        have P1 := P1.below hbq
        refine hK.out _ _ ?_ (fun hHeld => ?_)
        · exact hq
        clear hK K
        try simp only [Act.put, List.setIfInBounds_toArray, List.set_cons_zero, List.set_cons_succ]
        refine wpAnyH_ready (rs := [4, 5]) (by kernel_rfl) (by simp) ?_
        refine AllReadyH.cons rfl (fun K hK => ?_) (AllReadyH.cons rfl (fun K hK => ?_) AllReadyH.nil)
        · go_simp
          refine (hI _ _ P1 K1).mono ?_
          intro e wq hqq
          obtain ⟨a2, c2, rfl, hbq, own2⟩ := hqq.use
          have hq := below_after_of hHeld hbq
          try (have hg2 := ne_own1 G own2)
          try (have G := G.below hbq)
          have I2 := own_prs own2
          have L2 : ∀ k, (Value.slice a2 ys.length c2).ownBlock = some k → w11.heap.size ≤ k ∧ k < wq.heap.size := fun k hk => ⟨Nat.le_trans hHeld.size (own2.lt k hk).1, (own2.lt k hk).2⟩
          clear own2 hqq
          refine hK.out _ _ ?_ (fun hHeld => ?_)
          · exact hq
          clear hK K
          try simp only [Act.put, List.setIfInBounds_toArray, List.set_cons_zero, List.set_cons_succ]
          refine wpAnyH_ready (rs := [5]) (by kernel_rfl) (by simp) ?_
          refine AllReadyH.cons rfl (fun K hK => ?_) AllReadyH.nil
          · go_simp
            first | (have G := PrIn.new wq; have hgg := hq.size) | (have G := (PrIn.new w11).drew; have hgg := Nat.le_refl w11.heap.size)
            try (have hg2 := ne_own2 L2; have I3 := I2)
            try (have P1 := P1.below (one_new (.cells #[.int .i64 0, .slice none 0 0] 30)))
            try (have I2 := I2.below (one_new (.cells #[.int .i64 0, .slice none 0 0] 30)))
            refine hK.out _ _ ?_ (fun hHeld => ?_)
            · exact below_after_of hHeld (one_new _)
            clear hK K
            try simp only [Act.put, List.setIfInBounds_toArray, List.set_cons_zero, List.set_cons_succ]
            have ⟨x0, x1, u0, u1, hgl⟩ := G
            refine wpAnyH_ready (rs := [6]) (by kernel_rfl) (by simp) ?_
            refine AllReadyH.cons rfl (fun K hK => ?_) AllReadyH.nil
            go_simp
            refine hK.out _ _ ?_ (fun hHeld => ?_)
            · first | exact (hHeld.setCell (by exact hgg) _).setCell (by exact hgg) _ | exact below_after_of hq (one_new _)
            clear hK K
            try simp only [Act.put, List.setIfInBounds_toArray, List.set_cons_zero, List.set_cons_succ]
            refine wpAnyH_done (by kernel_rfl) ?_ _
            refine ⟨rfl, _, a1, c1, a2, c2, rfl, ?_, ?_, ?_, hHeld⟩
            · first | exact PrIn.set G | exact Pair.new _ _ _ _
            · first | exact (I2.set _ hg2) | exact I3.below (one_new _)
            · exact fun k hk => ⟨(L2 k hk).1, by have := (L2 k hk).2; simp; omega⟩
        · go_simp
          first | (have G := PrIn.new wq; have hgg := hq.size) | (have G := (PrIn.new w11).drew; have hgg := Nat.le_refl w11.heap.size)
          try (have hg2 := ne_own2 L2; have I3 := I2)
          try (have P1 := P1.below (one_new (.cells #[.int .i64 0, .slice none 0 0] 30)))
          try (have I2 := I2.below (one_new (.cells #[.int .i64 0, .slice none 0 0] 30)))
          refine hK.out _ _ ?_ (fun hHeld => ?_)
          · exact below_after_of hHeld (one_new _)
          clear hK K
          try simp only [Act.put, List.setIfInBounds_toArray, List.set_cons_zero, List.set_cons_succ]
          refine wpAnyH_ready (rs := [4]) (by kernel_rfl) (by simp) ?_
          refine AllReadyH.cons rfl (fun K hK => ?_) AllReadyH.nil
          · go_simp
            refine (hI _ _ P1 K1).mono ?_
            intro e wq hqq
            obtain ⟨a2, c2, rfl, hbq, own2⟩ := hqq.use
            have hq := below_after_of hHeld hbq
            try (have hg2 := ne_own1 G own2)
            try (have G := G.below hbq)
            have I2 := own_prs own2
            have L2 : ∀ k, (Value.slice a2 ys.length c2).ownBlock = some k → w11.heap.size ≤ k ∧ k < wq.heap.size := fun k hk => ⟨Nat.le_trans hHeld.size (own2.lt k hk).1, (own2.lt k hk).2⟩
            clear own2 hqq
            refine hK.out _ _ ?_ (fun hHeld => ?_)
            · exact hq
            clear hK K
            try simp only [Act.put, List.setIfInBounds_toArray, List.set_cons_zero, List.set_cons_succ]
            have ⟨x0, x1, u0, u1, hgl⟩ := G
            refine wpAnyH_ready (rs := [6]) (by kernel_rfl) (by simp) ?_
            refine AllReadyH.cons rfl (fun K hK => ?_) AllReadyH.nil
            go_simp
            refine hK.out _ _ ?_ (fun hHeld => ?_)
            · first | exact (hHeld.setCell (by exact hgg) _).setCell (by exact hgg) _ | exact below_after_of hq (one_new _)
            clear hK K
            try simp only [Act.put, List.setIfInBounds_toArray, List.set_cons_zero, List.set_cons_succ]
            refine wpAnyH_done (by kernel_rfl) ?_ _
            refine ⟨rfl, _, a1, c1, a2, c2, rfl, ?_, ?_, ?_, hHeld⟩
            · first | exact PrIn.set G | exact Pair.new _ _ _ _
            · first | exact (I2.set _ hg2) | exact I3.below (one_new _)
            · exact fun k hk => ⟨(L2 k hk).1, by have := (L2 k hk).2; simp; omega⟩
      · go_simp
        first | (have G := PrIn.new wq; have hgg := hq.size) | (have G := (PrIn.new w11).drew; have hgg := Nat.le_refl w11.heap.size)
        try (have hg2 := ne_own2 L2; have I3 := I2)
        try (have P1 := P1.below (one_new (.cells #[.int .i64 0, .slice none 0 0] 30)))
        try (have I2 := I2.below (one_new (.cells #[.int .i64 0, .slice none 0 0] 30)))
        refine hK.out _ _ ?_ (fun hHeld => ?_)
        · exact below_after_of hHeld (one_new _)
        clear hK K
        try simp only [Act.put, List.setIfInBounds_toArray, List.set_cons_zero, List.set_cons_succ]
        refine wpAnyH_ready (rs := [3]) (by kernel_rfl) (by simp) ?_
        refine AllReadyH.cons rfl (fun K hK => ?_) AllReadyH.nil
        · go_simp
          refine (hTo _).mono ?_
          rintro e wq ⟨rfl, hbq⟩
          have hq := below_after_of hHeld hbq
          try (have G := G.below hbq)
          have P1 := P1.below hbq
          refine hK.out _ _ ?_ (fun hHeld => ?_)
          · exact hq
          clear hK K
          try simp only [Act.put, List.setIfInBounds_toArray, List.set_cons_zero, List.set_cons_succ]
          refine wpAnyH_ready (rs := [4]) (by kernel_rfl) (by simp) ?_
          refine AllReadyH.cons rfl (fun K hK => ?_) AllReadyH.nil
          · go_simp
            refine (hI _ _ P1 K1).mono ?_
            intro e wq hqq
            obtain ⟨a2, c2, rfl, hbq, own2⟩ := hqq.use
            have hq := below_after_of hHeld hbq
            try (have hg2 := ne_own1 G own2)
            try (have G := G.below hbq)
            have I2 := own_prs own2
            have L2 : ∀ k, (Value.slice a2 ys.length c2).ownBlock = some k → w11.heap.size ≤ k ∧ k < wq.heap.size := fun k hk => ⟨Nat.le_trans hHeld.size (own2.lt k hk).1, (own2.lt k hk).2⟩
            clear own2 hqq
            refine hK.out _ _ ?_ (fun hHeld => ?_)
            · exact hq
            clear hK K
            try simp only [Act.put, List.setIfInBounds_toArray, List.set_cons_zero, List.set_cons_succ]
            have ⟨x0, x1, u0, u1, hgl⟩ := G
            refine wpAnyH_ready (rs := [6]) (by kernel_rfl) (by simp) ?_
            refine AllReadyH.cons rfl (fun K hK => ?_) AllReadyH.nil
            go_simp
            refine hK.out _ _ ?_ (fun hHeld => ?_)
            · first | exact (hHeld.setCell (by exact hgg) _).setCell (by exact hgg) _ | exact below_after_of hq (one_new _)
            clear hK K
            try simp only [Act.put, List.setIfInBounds_toArray, List.set_cons_zero, List.set_cons_succ]
            refine wpAnyH_done (by kernel_rfl) ?_ _
            refine ⟨rfl, _, a1, c1, a2, c2, rfl, ?_, ?_, ?_, hHeld⟩
            · first | exact PrIn.set G | exact Pair.new _ _ _ _
            · first | exact (I2.set _ hg2) | exact I3.below (one_new _)
            · exact fun k hk => ⟨(L2 k hk).1, by have := (L2 k hk).2; simp; omega⟩
    · go_simp
      first | (have G := PrIn.new wq; have hgg := hq.size) | (have G := (PrIn.new w11).drew; have hgg := Nat.le_refl w11.heap.size)
      try (have hg2 := ne_own2 L2; have I3 := I2)
      try (have P1 := P1.below (one_new (.cells #[.int .i64 0, .slice none 0 0] 30)))
      try (have I2 := I2.below (one_new (.cells #[.int .i64 0, .slice none 0 0] 30)))
      refine hK.out _ _ ?_ (fun hHeld => ?_)
      · exact below_after_of hHeld (one_new _)
      clear hK K
      try simp only [Act.put, List.setIfInBounds_toArray, List.set_cons_zero, List.set_cons_succ]
      refine wpAnyH_ready (rs := [1]) (by kernel_rfl) (by simp) ?_
      refine AllReadyH.cons rfl (fun K hK => ?_) AllReadyH.nil
      · go_simp
        refine (hT _ (HV.out _ (below_after_of HBW.out hHeld))).mono ?_
        rintro e wq ⟨a1, c1, rfl, hbq, own1⟩
        have hq := below_after_of hHeld hbq
        try (have G := G.below hbq)
        have P1 := own_prs_n HN.out own1
        have K1 := own_okv own1
        clear own1
        refine hK.out _ _ ?_ (fun hHeld => ?_)
        · exact hq
        clear hK K
        try simp only [Act.put, List.setIfInBounds_toArray, List.set_cons_zero, List.set_cons_succ]
        refine wpAnyH_ready (rs := [3]) (by kernel_rfl) (by simp) ?_
        refine AllReadyH.cons rfl (fun K hK => ?_) AllReadyH.nil
        · go_simp
          refine (hTo _).mono ?_
          rintro e wq ⟨rfl, hbq⟩
          have hq := below_after_of hHeld hbq
          try (have G := G.below hbq)
          have P1 := P1.below hbq
          refine hK.out _ _ ?_ (fun hHeld => ?_)
          · exact hq
          clear hK K
          try simp only [Act.put, List.setIfInBounds_toArray, List.set_cons_zero, List.set_cons_succ]
          refine wpAnyH_ready (rs := [4]) (by kernel_rfl) (by simp) ?_
          refine AllReadyH.cons rfl (fun K hK => ?_) AllReadyH.nil
          · go_simp
            refine (hI _ _ P1 K1).mono ?_
            intro e wq hqq
            obtain ⟨a2, c2, rfl, hbq, own2⟩ := hqq.use
            have hq := below_after_of hHeld hbq
            try (have hg2 := ne_own1 G own2)
            try (have G := G.below hbq)
            have I2 := own_prs own2
            have L2 : ∀ k, (Value.slice a2 ys.length c2).ownBlock = some k → w11.heap.size ≤ k ∧ k < wq.heap.size := fun k hk => ⟨Nat.le_trans hHeld.size (own2.lt k hk).1, (own2.lt k hk).2⟩
            clear own2 hqq
            refine hK.out _ _ ?_ (fun hHeld => ?_)
            · exact hq
            clear hK K
            try simp only [Act.put, List.setIfInBounds_toArray, List.set_cons_zero, List.set_cons_succ]
            have ⟨x0, x1, u0, u1, hgl⟩ := G
            refine wpAnyH_ready (rs := [6]) (by kernel_rfl) (by simp) ?_
            refine AllReadyH.cons rfl (fun K hK => ?_) AllReadyH.nil
            go_simp
            refine hK.out _ _ ?_ (fun hHeld => ?_)
            · first | exact (hHeld.setCell (by exact hgg) _).setCell (by exact hgg) _ | exact below_after_of hq (one_new _)
            clear hK K
            try simp only [Act.put, List.setIfInBounds_toArray, List.set_cons_zero, List.set_cons_succ]
            refine wpAnyH_done (by kernel_rfl) ?_ _
            refine ⟨rfl, _, a1, c1, a2, c2, rfl, ?_, ?_, ?_, hHeld⟩
            · first | exact PrIn.set G | exact Pair.new _ _ _ _
            · first | exact (I2.set _ hg2) | exact I3.below (one_new _)
            · exact fun k hk => ⟨(L2 k hk).1, by have := (L2 k hk).2; simp; omega⟩
  rintro _ _ W13 ⟨rfl, g13, a1, c1, a13, c13, rfl, Q13, i13, -, hb13⟩
  dsimp only
  have hb13n := below_after_of HB11.out hb13
  obtain ⟨Q2, Q4, j2, _, _⟩ := C10.out _ hb13n
  clear q0 q1 HBW hb13 HB11
  have p0 := Q2.2.1
  have p1 := Q2.2.2
  have p2 := Q2.1
  have p5 := Q13.2.1
  have p6 := Q13.2.2
  have p7 := Q13.1
  go_wp2_with fail
  refine (eqSlotsResult_same code _ _ ys _ i13 j2 (by omega)).mono ?_
  rintro e w14 ⟨rfl, hb14⟩
  have hb14' := below_after_of hb13n hb14
  obtain ⟨_, Q4, _, m14, hB14⟩ := C10.out _ hb14'
  clear Q2 p0 p1 p2 p5 p6 p7 i13 j2 hb13n hb14 hb14' C10 Q13
  have p3 := Q4.2.1
  have p4 := Q4.2.2
  go_wp2_with fail
  refine (heldSlotsResult_any code _ ys.length 1 _ m14 (by omega) (by omega)).mono ?_
  rintro e w15 ⟨rfl, hb15⟩
  have hB15 := below_after_of hB14 hb15
  clear m14 p3 p4 Q4 hb15 hB14
  go_wp2
  go_ret
  exact ⟨rfl, below_after_of HW0.out hB15⟩
set_option maxRecDepth 100000 in
set_option maxHeartbeats 1000000 in
theorem fnExactPutSlot_walk (v : Value) (l : Prl) (sk sv : Int) (w : World) (hv : Prs w v l) (hl : l.length ≤ maxLen) :
    Calls Try.prog 10 #[v, .agg #[.int .i64 sk, .int .i64 sv]] w fun e w' => e = .returned (.bool true) ∧ Below w.heap.size w w' := by
  by_cases h : l.length ≤ 1048576
  · exact fnExactPutSlot_small v l sk sv w hv h
  · obtain ⟨a, c, rfl⟩ := hv.shape
    have hZ := fun w => szSlotS_any a l.length c w hl
    rw [if_neg h] at hZ
    generalize l.length = n at *
    clear hv
    go_enter Try.func10, Try.ntmps10
    go_wp2_with fail
    refine (hZ _).mono ?_
    rintro e w1 ⟨rfl, rfl⟩
    clear hZ
    go_wp2
    go_ret
    exact ⟨rfl, one_new _⟩
end U
end Go.Proofs.Ytgflamlfplpfdaa
