/- The slot to which a key is led: NearSlot of the program and of the model. -/
import Derived.Test.YtonadfpblgmohaaTr2
import Derived.Test.YtonadfpblgmohaaTr9
import Derived.Test.YtonadfpblgmohaaTr10
namespace Go.Proofs.Ytonadfpblgmohaa
open Go.RowKit
namespace U
theorem blk3V {w : World} {b : Nat} {x y z : Value} {t : TypeId} (h : w.heap[b]? = some (.cells #[x, y, z] t (0, 0))) : (w.cell? ⟨b, 0, none⟩ = some x ∧ w.cell? ⟨b, 1, none⟩ = some y ∧ w.cell? ⟨b, 2, none⟩ = some z) ∧ (w.frozen? ⟨b, 0, none⟩ = false ∧ w.frozen? ⟨b, 1, none⟩ = false ∧ w.frozen? ⟨b, 2, none⟩ = false) := by
  refine ⟨⟨?_, ?_, ?_⟩, ⟨?_, ?_, ?_⟩⟩
  · unfold World.cell?; rw [h]; rfl
  · unfold World.cell?; rw [h]; rfl
  · unfold World.cell?; rw [h]; rfl
  · unfold World.frozen?; rw [h]; rfl
  · unfold World.frozen?; rw [h]; rfl
  · unfold World.frozen?; rw [h]; rfl
theorem IsTr.end {l : Prl} {t : Tr} (h : IsTr l t) (key : Int) (h0 : 0 < l.length) : t.last key = .leaf (t.near key).1 (t.near key).2 := by
  induction h using IsTr.ind with
  | none => simp at h0
  | leaf k v => rfl
  | fork h2 hb h3 h4 ih1 ih2 =>
    rename_i l b L R
    show (if bitN key b = 0 then L.last key else R.last key) = .leaf (if bitN key b = 0 then L.near key else R.near key).1 (if bitN key b = 0 then L.near key else R.near key).2
    split
    · exact ih1 (fb_some hb h0 (Or.inl rfl))
    · exact ih2 (fb_some hb h0 (Or.inr rfl))
/-- The answer of a function that hands back a code and a slot. -/
def SlAns (w : World) (c k v : Int) (e : Ending) (w' : World) : Prop := e = .returned (.agg #[.int .i64 c, .int .i64 k, .int .i64 v]) ∧ Below w.heap.size w w'
set_option maxRecDepth 100000 in
set_option maxHeartbeats 1000000 in
theorem implNearSlot_no (v : Value) (l : Prl) (key : Int) (w : World) (hv : Prs w v l) (hx : l.length ≤ 1099511627776) (h0 : slF l ≠ 0) :
    Calls Try.prog 16 #[v, .int .i64 key] w fun e w' => SlAns w (slF l) 0 0 e w' := by
  have hF := fun w' h => implSlotsFault_any v l w' (hv.below h) hx
  obtain ⟨ad, c, rfl⟩ := hv.shape
  generalize slF l = f at *
  generalize l.length = n at *
  have hfn : (f != 0) = true := by simpa using h0
  clear hv h0
  go_enter Try.func16, Try.ntmps16
  go_wp2_with fail
  refine (hF _ (one_new _)).mono ?_
  rintro e w1 ⟨rfl, hb1⟩
  obtain ⟨⟨g0, g1, g2⟩, ⟨f0, f1, f2⟩⟩ := blk3V ((hb1.block w.heap.size (by simp)).trans (heap_alloc_new w _))
  have hB1 := below_after hb1
  clear hF hb1
  go_wp2
  exact bodyPost_ret (v := .agg #[.int .i64 f, .int .i64 0, .int .i64 0]) (by simp [results, Try.results16, go_sem, *]) rfl ⟨rfl, ((hB1.setCell (by simp) _).setCell (by simp) _).setCell (by simp) _⟩
set_option maxRecDepth 100000 in
set_option maxHeartbeats 1000000 in
theorem implNearSlot_key (v : Value) (l : Prl) (key : Int) (w : World) (hv : Prs w v l) (h0 : slF l = 0) (hk : inB key 0 255 = false) :
    Calls Try.prog 16 #[v, .int .i64 key] w fun e w' => SlAns w 3 0 0 e w' := by
  have hF := fun w' h => implSlotsFault_any v l w' (hv.below h) (by have := (slF_ok h0).len; omega)
  have hK := fun w => isKey_any key w
  rw [h0] at hF
  rw [hk] at hK
  obtain ⟨ad, c, rfl⟩ := hv.shape
  generalize l.length = n at *
  clear hv h0 hk
  go_enter Try.func16, Try.ntmps16
  go_wp2_with fail
  refine (hF _ (one_new _)).mono ?_
  rintro e w1 ⟨rfl, hb1⟩
  obtain ⟨⟨g0, g1, g2⟩, ⟨f0, f1, f2⟩⟩ := blk3V ((hb1.block w.heap.size (by simp)).trans (heap_alloc_new w _))
  have hB1 := below_after hb1
  clear hF hb1
  go_wp2_with fail
  refine (hK _).mono ?_
  rintro e w2 ⟨rfl, rfl⟩
  clear hK
  go_wp2
  exact bodyPost_ret (v := .agg #[.int .i64 3, .int .i64 0, .int .i64 0]) (by simp [results, Try.results16, go_sem, *]) rfl ⟨rfl, ((hB1.setCell (by simp) _).setCell (by simp) _).setCell (by simp) _⟩
set_option maxRecDepth 100000 in
set_option maxHeartbeats 1000000 in
theorem implNearSlot_none (v : Value) (key : Int) (w : World) (hv : Prs w v []) (ho : Okv v) (hk : inB key 0 255 = true) :
    Calls Try.prog 16 #[v, .int .i64 key] w fun e w' => SlAns w 4 0 0 e w' := by
  have hs : Sls [] := ⟨by simp, List.Pairwise.nil, fun p hp => by cases hp⟩
  have hF := fun w' h => implSlotsFault_any v [] w' (hv.below h) (by simp)
  have hT := fun w' h => trieOf_any .none v w' hs (hv.below h) ho
  have hY := fun w => wayOf_any .none key w trivial (inB_bd hk) (Nat.zero_le _)
  have hK := fun w => isKey_any key w
  have ha := as_leaf_none (.agg #[])
  rw [slF_all hs] at hF
  rw [hk] at hK
  simp only [Tr.val_none] at hT hY
  obtain ⟨ad, c, rfl⟩ := hv.shape
  have e0 : ([] : Prl).length = 0 := rfl
  rw [e0] at hF hT ⊢
  clear hv hk hs ho e0
  go_enter Try.func16, Try.ntmps16
  go_wp2_with fail
  refine (hF _ (one_new _)).mono ?_
  rintro e w1 ⟨rfl, hb1⟩
  clear hF
  go_wp2_with fail
  refine (hK _).mono ?_
  rintro e w2 ⟨rfl, rfl⟩
  clear hK
  go_wp2_with fail
  refine (hT _ (below_after hb1)).mono ?_
  rintro e w3 ⟨rfl, hb3⟩
  have hb3' := below_after_of hb1 hb3
  clear hT hb1 hb3
  go_wp2_with fail
  refine (hY _).mono ?_
  rintro e w4 ⟨hb4, vv, rfl, -⟩
  have hb4' := below_after_of hb3' hb4
  have hb5 := hb4'.alloc hb4'.size (.cells #[.int .i64 0, .int .i64 0] 80)
  obtain ⟨⟨g0, g1, g2⟩, ⟨f0, f1, f2⟩⟩ := blk3V ((hb5.block w.heap.size (by simp)).trans (heap_alloc_new w _))
  have hB5 := below_after hb5
  have e1 : (Tr.last key .none).val = .iface 110 (.agg #[]) := rfl
  rw [e1]
  clear hY hb3' hb4 hb4' hb5 e1
  go_wp2
  exact bodyPost_ret (v := .agg #[.int .i64 4, .int .i64 0, .int .i64 0]) (by simp [results, Try.results16, go_sem, *]) rfl ⟨rfl, ((hB5.setCell (by simp) _).setCell (by simp) _).setCell (by simp) _⟩
set_option maxRecDepth 100000 in
set_option maxHeartbeats 1000000 in
theorem implNearSlot_ok (v : Value) (l : Prl) (t : Tr) (key : Int) (w : World) (hv : Prs w v l) (ho : Okv v) (h0 : slF l = 0) (ht : IsTr l t) (hn : 0 < l.length) (hk : inB key 0 255 = true) :
    Calls Try.prog 16 #[v, .int .i64 key] w fun e w' => SlAns w 0 (t.near key).1 (t.near key).2 e w' := by
  have hs := slF_ok h0
  have hF := fun w' h => implSlotsFault_any v l w' (hv.below h) (by have := hs.len; omega)
  have hT := fun w' h => trieOf_any ht v w' hs (hv.below h) ho
  have hY := fun w => wayOf_any t key w (ht.ok hs) (inB_bd hk) (by have := ht.forks; have := hs.len; omega)
  have hK := fun w => isKey_any key w
  have ha := as_leaf (.agg #[.int .i64 (t.near key).1, .int .i64 (t.near key).2])
  have hE : Hid ((t.last key).val = .iface 80 (.agg #[.int .i64 (t.near key).1, .int .i64 (t.near key).2])) := (by rw [ht.end key hn]; rfl : (t.last key).val = .iface 80 (.agg #[.int .i64 (t.near key).1, .int .i64 (t.near key).2]))
  rw [h0] at hF
  rw [hk] at hK
  obtain ⟨tT, xT, eT⟩ := t.isIface
  rw [eT] at hT hY
  obtain ⟨ad, c, rfl⟩ := hv.shape
  generalize (t.near key).1 = x at *
  generalize (t.near key).2 = y at *
  generalize l.length = n at *
  clear hv hk hs ho h0 ht hn eT
  go_enter Try.func16, Try.ntmps16
  go_wp2_with fail
  refine (hF _ (one_new _)).mono ?_
  rintro e w1 ⟨rfl, hb1⟩
  clear hF
  go_wp2_with fail
  refine (hK _).mono ?_
  rintro e w2 ⟨rfl, rfl⟩
  clear hK
  go_wp2_with fail
  refine (hT _ (below_after hb1)).mono ?_
  rintro e w3 ⟨rfl, hb3⟩
  have hb3' := below_after_of hb1 hb3
  clear hT hb1 hb3
  go_wp2_with fail
  refine (hY _).mono ?_
  rintro e w4 ⟨hb4, vv, rfl, -⟩
  have hb4' := below_after_of hb3' hb4
  have hb5 := hb4'.alloc hb4'.size (.cells #[.int .i64 x, .int .i64 y] 80)
  obtain ⟨⟨g0, g1, g2⟩, ⟨f0, f1, f2⟩⟩ := blk3V ((hb5.block w.heap.size (by simp)).trans (heap_alloc_new w _))
  have hB5 := below_after hb5
  rw [hE.out]
  clear hY hb3' hb4 hb4' hb5 hE
  go_wp2
  exact bodyPost_ret (v := .agg #[.int .i64 0, .int .i64 x, .int .i64 y]) (by simp [results, Try.results16, go_sem, *]) rfl ⟨rfl, ((hB5.setCell (by simp) _).setCell (by simp) _).setCell (by simp) _⟩
/-- What l6Asked tells. -/
def asC (l : Prl) (key : Int) : Int := if slF l = 0 then (if inB key 0 255 = true then 0 else 3) else slF l
theorem asC_no {l : Prl} {key : Int} (h : slF l ≠ 0) : asC l key = slF l := by unfold asC; rw [if_neg h]
theorem asC_key {l : Prl} {key : Int} (h : slF l = 0) (hk : inB key 0 255 = false) : asC l key = 3 := by unfold asC; rw [if_pos h, if_neg (by rw [hk]; simp)]
theorem asC_ok {l : Prl} {key : Int} (h : slF l = 0) (hk : inB key 0 255 = true) : asC l key = 0 := by unfold asC; rw [if_pos h, if_pos hk]
set_option maxRecDepth 100000 in
set_option maxHeartbeats 1000000 in
theorem l6Asked_any (v : Value) (l : Prl) (key : Int) (w : World) (hv : Prs w v l) (hx : l.length ≤ 1099511627776) :
    Calls Try.prog 50 #[v, .int .i64 key] w fun e w' => e = .returned (.int .i64 (asC l key)) ∧ ∃ q, w' = w.drewN q := by
  have hF := fun w' h => l4Fault_any v l w' (hv.below h) hx
  have hK := fun w => l4Key_any key w
  by_cases h0 : slF l = 0
  · rw [h0] at hF
    rcases Bool.eq_false_or_eq_true (inB key 0 255) with hk | hk
    all_goals
      first | rw [asC_ok h0 hk] | rw [asC_key h0 hk]
      rw [hk] at hK
      obtain ⟨ad, c, rfl⟩ := hv.shape
      generalize l.length = n at *
      clear hk h0 hv
      go_enter Try.func50, Try.ntmps50
      go_wp2_with fail
      refine (hF _ (Below.refl _ _)).mono ?_
      rintro e w1 ⟨rfl, q1, rfl⟩
      clear hF
      go_wp2_with fail
      refine (hK _).mono ?_
      rintro e w2 ⟨rfl, rfl⟩
      clear hK
      go_wp2
      go_ret
      exact ⟨rfl, _, rfl⟩
  · rw [asC_no h0]
    obtain ⟨ad, c, rfl⟩ := hv.shape
    generalize slF l = f at *
    generalize l.length = n at *
    have hfn : (f != 0) = true := by simpa using h0
    clear h0 hK hv
    go_enter Try.func50, Try.ntmps50
    go_wp2_with fail
    refine (hF _ (Below.refl _ _)).mono ?_
    rintro e w1 ⟨rfl, q1, rfl⟩
    clear hF
    go_wp2
    go_ret
    exact ⟨rfl, _, rfl⟩
set_option maxRecDepth 100000 in
set_option maxHeartbeats 1000000 in
theorem specNearSlot_no (v : Value) (l : Prl) (key : Int) (w : World) (hv : Prs w v l) (hx : l.length ≤ 1099511627776) (h0 : asC l key ≠ 0) :
    Calls Try.prog 17 #[v, .int .i64 key] w fun e w' => SlAns w (asC l key) 0 0 e w' := by
  have hF := fun w' h => l6Asked_any v l key w' (hv.below h) hx
  obtain ⟨ad, c, rfl⟩ := hv.shape
  generalize asC l key = f at *
  generalize l.length = n at *
  have hfn : (f != 0) = true := by simpa using h0
  clear hv h0
  go_enter Try.func17, Try.ntmps17
  go_wp2_with fail
  refine (hF _ (one_new _)).mono ?_
  rintro e w1 ⟨rfl, q1, rfl⟩
  have hB1 : Below w.heap.size w ((w.alloc (.cells #[.int .i64 0, .int .i64 0, .int .i64 0] 34)).drewN q1) := below_drewN (one_new _) q1
  have hb1 : Below (w.alloc (.cells #[.int .i64 0, .int .i64 0, .int .i64 0] 34)).heap.size (w.alloc (.cells #[.int .i64 0, .int .i64 0, .int .i64 0] 34)) ((w.alloc (.cells #[.int .i64 0, .int .i64 0, .int .i64 0] 34)).drewN q1) := below_drewN (Below.refl _ _) q1
  obtain ⟨⟨g0, g1, g2⟩, ⟨f0, f1, f2⟩⟩ := blk3V ((hb1.block w.heap.size (by simp)).trans (heap_alloc_new w _))
  clear hF hb1
  go_wp2
  exact bodyPost_ret (v := .agg #[.int .i64 f, .int .i64 0, .int .i64 0]) (by simp [results, Try.results17, go_sem, *]) rfl ⟨rfl, ((hB1.setCell (by simp) _).setCell (by simp) _).setCell (by simp) _⟩
set_option maxRecDepth 100000 in
set_option maxHeartbeats 1000000 in
theorem specNearSlot_none (v : Value) (key : Int) (w : World) (hv : Prs w v []) (h0 : asC [] key = 0) :
    Calls Try.prog 17 #[v, .int .i64 key] w fun e w' => SlAns w 4 0 0 e w' := by
  have hF := fun w' h => l6Asked_any v [] key w' (hv.below h) (by simp)
  rw [h0] at hF
  obtain ⟨ad, c, rfl⟩ := hv.shape
  have e0 : ([] : Prl).length = 0 := rfl
  rw [e0] at hF ⊢
  clear hv h0 e0
  go_enter Try.func17, Try.ntmps17
  go_wp2_with fail
  refine (hF _ (one_new _)).mono ?_
  rintro e w1 ⟨rfl, q1, rfl⟩
  have hB1 : Below w.heap.size w ((w.alloc (.cells #[.int .i64 0, .int .i64 0, .int .i64 0] 34)).drewN q1) := below_drewN (one_new _) q1
  have hb1 : Below (w.alloc (.cells #[.int .i64 0, .int .i64 0, .int .i64 0] 34)).heap.size (w.alloc (.cells #[.int .i64 0, .int .i64 0, .int .i64 0] 34)) ((w.alloc (.cells #[.int .i64 0, .int .i64 0, .int .i64 0] 34)).drewN q1) := below_drewN (Below.refl _ _) q1
  obtain ⟨⟨g0, g1, g2⟩, ⟨f0, f1, f2⟩⟩ := blk3V ((hb1.block w.heap.size (by simp)).trans (heap_alloc_new w _))
  clear hF hb1
  go_wp2
  exact bodyPost_ret (v := .agg #[.int .i64 4, .int .i64 0, .int .i64 0]) (by simp [results, Try.results17, go_sem, *]) rfl ⟨rfl, ((hB1.setCell (by simp) _).setCell (by simp) _).setCell (by simp) _⟩
theorem field_Tr1 (x : Bool) (k y : Int) (a : Option Addr) (n c : Nat) (w : World) : (Instr.field 54 (.agg #[.bool x, .int .i64 k, .int .i64 y, .slice a n c]) 1).run Try.prog w = .ok (.agg #[.int .i64 k, .int .i64 y]) w := by kernel_rfl
set_option maxRecDepth 100000 in
set_option maxHeartbeats 1000000 in
theorem specNearSlot_ok (v : Value) (l : Prl) (t : Tr) (key : Int) (w : World) (hv : Prs w v l) (h0 : slF l = 0) (ht : IsTr l t) (hn : 0 < l.length) (hk : inB key 0 255 = true) :
    Calls Try.prog 17 #[v, .int .i64 key] w fun e w' => SlAns w 0 (t.near key).1 (t.near key).2 e w' := by
  have hs := slF_ok h0
  have hF := fun w' h => l6Asked_any v l key w' (hv.below h) (by have := hs.len; omega)
  have hT := fun w' h => (l6Trail_any ht key (inB_bd hk) hs hn).c v w' (hv.below h)
  rw [asC_ok h0 hk] at hF
  obtain ⟨ad, c, rfl⟩ := hv.shape
  generalize (t.near key).1 = x at *
  generalize (t.near key).2 = y at *
  generalize t.way key = ws at *
  generalize l.length = n at *
  have d0 : ((n : Int) == 0) = false := by simp; omega
  clear hv hk hs h0 ht
  go_enter Try.func17, Try.ntmps17
  go_wp2_with fail
  refine (hF _ (one_new _)).mono ?_
  rintro e w1 ⟨rfl, q1, rfl⟩
  have hB1 : Below w.heap.size w ((w.alloc (.cells #[.int .i64 0, .int .i64 0, .int .i64 0] 34)).drewN q1) := below_drewN (one_new _) q1
  have hb1 : Below (w.alloc (.cells #[.int .i64 0, .int .i64 0, .int .i64 0] 34)).heap.size (w.alloc (.cells #[.int .i64 0, .int .i64 0, .int .i64 0] 34)) ((w.alloc (.cells #[.int .i64 0, .int .i64 0, .int .i64 0] 34)).drewN q1) := below_drewN (Below.refl _ _) q1
  clear hF
  go_wp2_with fail
  refine (hT _ hB1).mono ?_
  rintro e w2 ⟨a2, c2, rfl, -, hb2⟩
  have kf := fun w => field_Tr1 true x y a2 ws.length c2 w
  have hB2 := below_after_of hB1 hb2
  obtain ⟨⟨g0, g1, g2⟩, ⟨f0, f1, f2⟩⟩ := blk3V (((below_after_of hb1 hb2).block w.heap.size (by simp)).trans (heap_alloc_new w _))
  clear hT hb1 hb2 hB1
  go_wp2
  exact bodyPost_ret (v := .agg #[.int .i64 0, .int .i64 x, .int .i64 y]) (by simp [results, Try.results17, go_sem, *]) rfl ⟨rfl, ((hB2.setCell (by simp) _).setCell (by simp) _).setCell (by simp) _⟩
theorem bothNearSlot (l : Prl) (key : Int) (hx : l.length ≤ 1048576) : ∃ oc ok ov, (∀ u w, Prs w u l → Calls Try.prog 17 #[u, .int .i64 key] w fun e w' => SlAns w oc ok ov e w') ∧ (∀ u w, Prs w u l → Okv u → Calls Try.prog 16 #[u, .int .i64 key] w fun e w' => SlAns w oc ok ov e w') := by
  by_cases h0 : slF l = 0
  · rcases Bool.eq_false_or_eq_true (inB key 0 255) with hk | hk
    · by_cases hn : 0 < l.length
      · obtain ⟨t, ht⟩ := isTr_ex _ l (Nat.le_refl _) (slF_ok h0)
        exact ⟨0, _, _, fun u w hu => specNearSlot_ok u l t key w hu h0 ht hn hk, fun u w hu ho => implNearSlot_ok u l t key w hu ho h0 ht hn hk⟩
      · have e : l = [] := List.eq_nil_of_length_eq_zero (by omega)
        subst e
        exact ⟨4, 0, 0, fun u w hu => specNearSlot_none u key w hu (asC_ok h0 hk), fun u w hu ho => implNearSlot_none u key w hu ho hk⟩
    · have e := asC_key h0 hk
      exact ⟨3, 0, 0, fun u w hu => by have := specNearSlot_no u l key w hu (by omega) (by rw [e]; decide); rw [e] at this; exact this, fun u w hu _ => implNearSlot_key u l key w hu h0 hk⟩
  · have e := asC_no (key := key) h0
    exact ⟨slF l, 0, 0, fun u w hu => by have := specNearSlot_no u l key w hu (by omega) (by rw [e]; exact h0); rw [e] at this; exact this, fun u w hu _ => implNearSlot_no u l key w hu (by omega) h0⟩
end U
end Go.Proofs.Ytonadfpblgmohaa
