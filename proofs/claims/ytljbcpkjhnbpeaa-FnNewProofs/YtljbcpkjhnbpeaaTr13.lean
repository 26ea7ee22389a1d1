/- The trail of a key: NewTrail of the model; of the program where there is a code, or no slot. -/
import Derived.Test.YtljbcpkjhnbpeaaTr11
namespace Go.Proofs.Ytljbcpkjhnbpeaa
open Go.RowKit
namespace U
theorem blk5V {w : World} {b : Nat} {x0 x1 x2 x3 x4 : Value} {t : TypeId} (h : w.heap[b]? = some (.cells #[x0, x1, x2, x3, x4] t (0, 0))) : (w.cell? ⟨b, 0, none⟩ = some x0 ∧ w.cell? ⟨b, 1, none⟩ = some x1 ∧ w.cell? ⟨b, 2, none⟩ = some x2 ∧ w.cell? ⟨b, 3, none⟩ = some x3 ∧ w.cell? ⟨b, 4, none⟩ = some x4) ∧ (w.frozen? ⟨b, 0, none⟩ = false ∧ w.frozen? ⟨b, 1, none⟩ = false ∧ w.frozen? ⟨b, 2, none⟩ = false ∧ w.frozen? ⟨b, 3, none⟩ = false ∧ w.frozen? ⟨b, 4, none⟩ = false) := by
  refine ⟨⟨?_, ?_, ?_, ?_, ?_⟩, ⟨?_, ?_, ?_, ?_, ?_⟩⟩
  · unfold World.cell?; rw [h]; rfl
  · unfold World.cell?; rw [h]; rfl
  · unfold World.cell?; rw [h]; rfl
  · unfold World.cell?; rw [h]; rfl
  · unfold World.cell?; rw [h]; rfl
  · unfold World.frozen?; rw [h]; rfl
  · unfold World.frozen?; rw [h]; rfl
  · unfold World.frozen?; rw [h]; rfl
  · unfold World.frozen?; rw [h]; rfl
  · unfold World.frozen?; rw [h]; rfl
/-- The answer of NewTrail. -/
def TlAns (w : World) (code : Int) (x : Bool) (k y : Int) (ws : Prl) (e : Ending) (w' : World) : Prop :=
  ∃ a c, e = .returned (.agg #[.int .i64 code, .bool x, .int .i64 k, .int .i64 y, .slice a ws.length c]) ∧ Below w.heap.size w w' ∧ w'.ownsRow w.heap.size 52 2 (.slice a ws.length c) ws.length ((fl ws).map (Value.int .i64))
set_option maxRecDepth 100000 in
set_option maxHeartbeats 1000000 in
theorem specNewTrail_no (v : Value) (l : Prl) (key : Int) (w : World) (hv : Prs w v l) (hx : l.length ≤ 1099511627776) (h0 : asC l key ≠ 0) :
    Calls Try.prog 17 #[v, .int .i64 key] w fun e w' => TlAns w (asC l key) false 0 0 [] e w' := by
  have hF := fun w' h => l6Asked_any v l key w' (hv.below h) hx
  obtain ⟨ad, c, rfl⟩ := hv.shape
  generalize asC l key = f at *
  generalize l.length = n at *
  have hfn : (f != 0) = true := by simpa using h0
  clear hv h0
  go_enter Try.func17, Try.ntmps17
  go_wp2_with fail
  refine (hF _ (one_new _)).mono ?_
  rintro e w1 ⟨rfl, q1, rfl⟩
  have hB1 : Below w.heap.size w ((w.alloc (.cells #[.int .i64 0, .bool false, .int .i64 0, .int .i64 0, .slice none 0 0] 33)).drewN q1) := below_drewN (one_new _) q1
  have hb1 : Below (w.alloc (.cells #[.int .i64 0, .bool false, .int .i64 0, .int .i64 0, .slice none 0 0] 33)).heap.size (w.alloc (.cells #[.int .i64 0, .bool false, .int .i64 0, .int .i64 0, .slice none 0 0] 33)) ((w.alloc (.cells #[.int .i64 0, .bool false, .int .i64 0, .int .i64 0, .slice none 0 0] 33)).drewN q1) := below_drewN (Below.refl _ _) q1
  obtain ⟨⟨g0, g1, g2, g3, g4⟩, ⟨f0, f1, f2, f3, f4⟩⟩ := blk5V ((hb1.block w.heap.size (by simp)).trans (heap_alloc_new w _))
  clear hF hb1
  go_wp2
  exact bodyPost_ret (v := .agg #[.int .i64 f, .bool false, .int .i64 0, .int .i64 0, .slice none 0 0]) (by simp [results, Try.results17, go_sem, *]) rfl ⟨none, 0, rfl, ((((hB1.setCell (by simp) _).setCell (by simp) _).setCell (by simp) _).setCell (by simp) _).setCell (by simp) _, World.ownsRow_nil _ _ _ _⟩
set_option maxRecDepth 100000 in
set_option maxHeartbeats 1000000 in
theorem specNewTrail_none (v : Value) (key : Int) (w : World) (hv : Prs w v []) (h0 : asC [] key = 0) :
    Calls Try.prog 17 #[v, .int .i64 key] w fun e w' => TlAns w 0 false 0 0 [] e w' := by
  have hF := fun w' h => l6Asked_any v [] key w' (hv.below h) (by simp)
  rw [h0] at hF
  obtain ⟨ad, c, rfl⟩ := hv.shape
  have e0 : ([] : Prl).length = 0 := rfl
  rw [e0] at hF ⊢
  clear hv h0 e0
  go_enter Try.func17, Try.ntmps17
  go_wp2_with fail
  refine (hF _ (one_new _)).mono ?_
  rintro e w1 ⟨rfl, q1, rfl⟩
  have hB1 : Below w.heap.size w ((w.alloc (.cells #[.int .i64 0, .bool false, .int .i64 0, .int .i64 0, .slice none 0 0] 33)).drewN q1) := below_drewN (one_new _) q1
  have hb1 : Below (w.alloc (.cells #[.int .i64 0, .bool false, .int .i64 0, .int .i64 0, .slice none 0 0] 33)).heap.size (w.alloc (.cells #[.int .i64 0, .bool false, .int .i64 0, .int .i64 0, .slice none 0 0] 33)) ((w.alloc (.cells #[.int .i64 0, .bool false, .int .i64 0, .int .i64 0, .slice none 0 0] 33)).drewN q1) := below_drewN (Below.refl _ _) q1
  obtain ⟨⟨g0, g1, g2, g3, g4⟩, ⟨f0, f1, f2, f3, f4⟩⟩ := blk5V ((hb1.block w.heap.size (by simp)).trans (heap_alloc_new w _))
  clear hF hb1
  go_wp2
  exact bodyPost_ret (v := .agg #[.int .i64 0, .bool false, .int .i64 0, .int .i64 0, .slice none 0 0]) (by simp [results, Try.results17, go_sem, *]) rfl ⟨none, 0, rfl, ((((hB1.setCell (by simp) _).setCell (by simp) _).setCell (by simp) _).setCell (by simp) _).setCell (by simp) _, World.ownsRow_nil _ _ _ _⟩
set_option maxRecDepth 100000 in
set_option maxHeartbeats 1000000 in
theorem specNewTrail_ok (v : Value) (l : Prl) (t : Tr) (key : Int) (w : World) (hv : Prs w v l) (h0 : slF l = 0) (ht : IsTr l t) (hn : 0 < l.length) (hk : inB key 0 255 = true) :
    Calls Try.prog 17 #[v, .int .i64 key] w fun e w' => TlAns w 0 true (t.near key).1 (t.near key).2 (t.way key) e w' := by
  have hs := slF_ok h0
  have hF := fun w' h => l6Asked_any v l key w' (hv.below h) (by have := hs.len; omega)
  have hT := fun w' h => (l6Trail_any ht key (inB_bd hk) hs hn).c v w' (hv.below h)
  rw [asC_ok h0 hk] at hF
  obtain ⟨ad, c, rfl⟩ := hv.shape
  generalize (t.near key).1 = x at *
  generalize (t.near key).2 = y at *
  generalize t.way key = ws at *
  generalize l.length = n at *
  have d0 : ((n : Int) == 0) = false := by simp; omega
  clear hv hk hs h0 ht
  go_enter Try.func17, Try.ntmps17
  go_wp2_with fail
  refine (hF _ (one_new _)).mono ?_
  rintro e w1 ⟨rfl, q1, rfl⟩
  have hB1 : Below w.heap.size w ((w.alloc (.cells #[.int .i64 0, .bool false, .int .i64 0, .int .i64 0, .slice none 0 0] 33)).drewN q1) := below_drewN (one_new _) q1
  have hb1 : Below (w.alloc (.cells #[.int .i64 0, .bool false, .int .i64 0, .int .i64 0, .slice none 0 0] 33)).heap.size (w.alloc (.cells #[.int .i64 0, .bool false, .int .i64 0, .int .i64 0, .slice none 0 0] 33)) ((w.alloc (.cells #[.int .i64 0, .bool false, .int .i64 0, .int .i64 0, .slice none 0 0] 33)).drewN q1) := below_drewN (Below.refl _ _) q1
  clear hF
  go_wp2_with fail
  refine (hT _ hB1).mono ?_
  rintro e w2 ⟨a2, c2, rfl, own2, hb2⟩
  have hB2 := below_after_of hB1 hb2
  have hsz : w.heap.size < ((w.alloc (.cells #[.int .i64 0, .bool false, .int .i64 0, .int .i64 0, .slice none 0 0] 33)).drewN q1).heap.size := by simp
  obtain ⟨⟨g0, g1, g2, g3, g4⟩, ⟨f0, f1, f2, f3, f4⟩⟩ := blk5V (((below_after_of hb1 hb2).block w.heap.size (by simp)).trans (heap_alloc_new w _))
  clear hT hb1 hb2 hB1
  go_wp2
  exact bodyPost_ret (v := .agg #[.int .i64 0, .bool true, .int .i64 x, .int .i64 y, .slice a2 ws.length c2]) (by simp [results, Try.results17, go_sem, *]) rfl ⟨a2, c2, rfl, ((((hB2.setCell (by simp) _).setCell (by simp) _).setCell (by simp) _).setCell (by simp) _).setCell (by simp) _, own_mono (ownsRow_setCell_below (ownsRow_setCell_below (ownsRow_setCell_below (ownsRow_setCell_below (ownsRow_setCell_below own2 hsz _) hsz _) hsz _) hsz _) hsz _) (Nat.le_of_lt hsz)⟩
set_option maxRecDepth 100000 in
set_option maxHeartbeats 1000000 in
theorem implNewTrail_no (v : Value) (l : Prl) (key : Int) (w : World) (hv : Prs w v l) (hx : l.length ≤ 1099511627776) (h0 : slF l ≠ 0) :
    Calls Try.prog 10 #[v, .int .i64 key] w fun e w' => TlAns w (slF l) false 0 0 [] e w' := by
  have hF := fun w' h => implSlotsFault_any v l w' (hv.below h) hx
  obtain ⟨ad, c, rfl⟩ := hv.shape
  generalize slF l = f at *
  have hfn : (f != 0) = true := by simpa using h0
  generalize l.length = n at *
  clear hv h0
  go_enter Try.func10, Try.ntmps10
  go_wp2_with fail
  refine (hF _ (two_new _ _)).mono ?_
  rintro e w1 ⟨rfl, hb1⟩
  have hr := heap_alloc_new (w.alloc (.cells #[.int .i64 key] 2)) (.cells #[.int .i64 0, .bool false, .int .i64 0, .int .i64 0, .slice none 0 0] 33)
  rw [World.size_alloc] at hr
  obtain ⟨⟨g0, g1, g2, g3, g4⟩, ⟨f0, f1, f2, f3, f4⟩⟩ := blk5V ((hb1.block (w.heap.size + 1) (by simp)).trans hr)
  have hbx : w1.cell? ⟨w.heap.size, 0, none⟩ = some (.int .i64 key) := by
    have h1 := (hb1.block w.heap.size (by simp; omega)).trans (((one_new _).block w.heap.size (by simp)).trans (heap_alloc_new w (.cells #[.int .i64 key] 2)))
    unfold World.cell?; rw [h1]; rfl
  have hB1 := below_after_of (two_new _ _) hb1
  clear hF hb1 hr
  go_wp2
  exact bodyPost_ret (v := .agg #[.int .i64 f, .bool false, .int .i64 0, .int .i64 0, .slice none 0 0]) (by simp [results, Try.results10, go_sem, *]) rfl ⟨none, 0, rfl, ((((hB1.setCell (Nat.le_succ _) _).setCell (Nat.le_succ _) _).setCell (Nat.le_succ _) _).setCell (Nat.le_succ _) _).setCell (Nat.le_succ _) _, World.ownsRow_nil _ _ _ _⟩
set_option maxRecDepth 100000 in
set_option maxHeartbeats 1000000 in
theorem implNewTrail_key (v : Value) (l : Prl) (key : Int) (w : World) (hv : Prs w v l) (h0 : slF l = 0) (hk : inB key 0 255 = false) :
    Calls Try.prog 10 #[v, .int .i64 key] w fun e w' => TlAns w 3 false 0 0 [] e w' := by
  have hF := fun w' h => implSlotsFault_any v l w' (hv.below h) (by have := (slF_ok h0).len; omega)
  have hK := fun w => isKey_any key w
  rw [h0] at hF
  rw [hk] at hK
  obtain ⟨ad, c, rfl⟩ := hv.shape
  generalize l.length = n at *
  clear hv h0
  go_enter Try.func10, Try.ntmps10
  go_wp2_with fail
  refine (hF _ (two_new _ _)).mono ?_
  rintro e w1 ⟨rfl, hb1⟩
  have hr := heap_alloc_new (w.alloc (.cells #[.int .i64 key] 2)) (.cells #[.int .i64 0, .bool false, .int .i64 0, .int .i64 0, .slice none 0 0] 33)
  rw [World.size_alloc] at hr
  obtain ⟨⟨g0, g1, g2, g3, g4⟩, ⟨f0, f1, f2, f3, f4⟩⟩ := blk5V ((hb1.block (w.heap.size + 1) (by simp)).trans hr)
  have hbx : w1.cell? ⟨w.heap.size, 0, none⟩ = some (.int .i64 key) := by
    have h1 := (hb1.block w.heap.size (by simp; omega)).trans (((one_new _).block w.heap.size (by simp)).trans (heap_alloc_new w (.cells #[.int .i64 key] 2)))
    unfold World.cell?; rw [h1]; rfl
  have hB1 := below_after_of (two_new _ _) hb1
  clear hF hb1 hr
  go_wp2_with fail
  refine (hK _).mono ?_
  rintro e w2 ⟨rfl, rfl⟩
  clear hK
  go_wp2
  exact bodyPost_ret (v := .agg #[.int .i64 3, .bool false, .int .i64 0, .int .i64 0, .slice none 0 0]) (by simp [results, Try.results10, go_sem, *]) rfl ⟨none, 0, rfl, ((((hB1.setCell (Nat.le_succ _) _).setCell (Nat.le_succ _) _).setCell (Nat.le_succ _) _).setCell (Nat.le_succ _) _).setCell (Nat.le_succ _) _, World.ownsRow_nil _ _ _ _⟩
set_option maxRecDepth 100000 in
set_option maxHeartbeats 2000000 in
theorem implNewTrail_none (v : Value) (key : Int) (w : World) (hv : Prs w v []) (ho : Okv v) (hk : inB key 0 255 = true) :
    Calls Try.prog 10 #[v, .int .i64 key] w fun e w' => TlAns w 0 false 0 0 [] e w' := by
  have hs : Sls [] := ⟨by simp, List.Pairwise.nil, fun p hp => by cases hp⟩
  have hF := fun w' h => implSlotsFault_any v [] w' (hv.below h) (by simp)
  have hT := fun w' h => trieOf_any .none v w' hs (hv.below h) ho
  have hY := fun w => wayOf_any .none key w trivial (inB_bd hk) (Nat.zero_le _)
  have hK := fun w => isKey_any key w
  have ha := as_leaf_none (.agg #[])
  rw [slF_all hs] at hF
  rw [hk] at hK
  simp only [Tr.val_none] at hT hY
  obtain ⟨ad, c, rfl⟩ := hv.shape
  have e0 : ([] : Prl).length = 0 := rfl
  rw [e0] at hF hT ⊢
  clear hv hk hs ho e0
  go_enter Try.func10, Try.ntmps10
  go_wp2_with fail
  refine (hF _ (two_new _ _)).mono ?_
  rintro e w1 ⟨rfl, hb1⟩
  have hr := heap_alloc_new (w.alloc (.cells #[.int .i64 key] 2)) (.cells #[.int .i64 0, .bool false, .int .i64 0, .int .i64 0, .slice none 0 0] 33)
  rw [World.size_alloc] at hr
  have HR1 : Hid (w1.heap[w.heap.size + 1]? = some (.cells #[.int .i64 0, .bool false, .int .i64 0, .int .i64 0, .slice none 0 0] 33)) := ((hb1.block (w.heap.size + 1) (by simp)).trans hr)
  have HX1 : Hid (w1.heap[w.heap.size]? = some (.cells #[.int .i64 key] 2)) := (hb1.block w.heap.size (by simp; omega)).trans (((one_new _).block w.heap.size (by simp)).trans (heap_alloc_new w (.cells #[.int .i64 key] 2)))
  have hbx : w1.cell? ⟨w.heap.size, 0, none⟩ = some (.int .i64 key) := by unfold World.cell?; rw [HX1.out]; rfl
  have hB1 : Hid (Below w.heap.size w w1) := below_after_of (two_new _ _) hb1
  have hsz : w.heap.size + 1 < w1.heap.size := (Array.getElem?_eq_some_iff.1 HR1.out).1
  clear hF hb1 hr
  go_wp2_with fail
  refine (hK _).mono ?_
  rintro e w2 ⟨rfl, rfl⟩
  clear hK
  have hbr := Below.refl w2.heap.size w2
  have HC : Hid (∀ w', Below w2.heap.size w2 w' → w'.cell? ⟨w.heap.size, 0, none⟩ = some (.int .i64 key)) := fun w' h => (h.cell (p := ⟨w.heap.size, 0, none⟩) (by show w.heap.size < w2.heap.size; omega)).trans hbx
  go_wp2
  go_region_held3 (fun w' => w'.cell? ⟨w.heap.size, 0, none⟩ = some (.int .i64 key))
    (first | exact hbx | exact HC.out _ hbr | exact HC.out _ hbr.drew)
    (first
      | (go_at_call 41; refine (hT _ (by first | exact below_after_of hB1.out hbr | exact (below_after_of hB1.out hbr).drew)).mono ?_; rintro e wq ⟨rfl, hbq⟩; have hbr : Below w2.heap.size w2 wq := (by first | exact below_after_of hbr hbq | exact below_after_of hbr.drew hbq))
      | (go_at_call 40; refine (hY _).mono ?_; rintro e wy ⟨hby, vv, rfl, -⟩; have hbr : Below w2.heap.size w2 wy := below_after_of hbr hby))
  have hb5 := hbr.alloc hbr.size (.cells #[.int .i64 0, .int .i64 0] 81)
  obtain ⟨⟨g0, g1, g2, g3, g4⟩, ⟨f0, f1, f2, f3, f4⟩⟩ := blk5V ((hb5.block (w.heap.size + 1) hsz).trans HR1.out)
  have hB5 := below_after_of hB1.out hb5
  have e1 : (Tr.last key .none).val = .iface 125 (.agg #[]) := rfl
  rw [e1]
  clear hY hbr hb5 e1 hbx
  go_wp2
  exact bodyPost_ret (v := .agg #[.int .i64 0, .bool false, .int .i64 0, .int .i64 0, .slice none 0 0]) (by simp [results, Try.results10, go_sem, *]) rfl ⟨none, 0, rfl, ((((hB5.setCell (Nat.le_succ _) _).setCell (Nat.le_succ _) _).setCell (Nat.le_succ _) _).setCell (Nat.le_succ _) _).setCell (Nat.le_succ _) _, World.ownsRow_nil _ _ _ _⟩
end U
end Go.Proofs.Ytljbcpkjhnbpeaa
