/- The way of a key in slots, as the model makes it. -/
import Derived.Test.YtljbcpkjhnbpeaaTr7
import Derived.Deep.RegionLaw
import Derived.OneCell
namespace Go.Proofs.Ytljbcpkjhnbpeaa
open Go.RowKit
namespace U
theorem Try.infoFo : (Try.prog.info? 52).map (fun i => (i.zero, i.size, i.bytes)) = some (some (.agg #[.int .i64 0, .int .i64 0]), 2, 16) := by kernel_rfl
theorem blk4V {w : World} {b : Nat} {x y z u : Value} {t : TypeId} (h : w.heap[b]? = some (.cells #[x, y, z, u] t (0, 0))) : (w.cell? ⟨b, 0, none⟩ = some x ∧ w.cell? ⟨b, 1, none⟩ = some y ∧ w.cell? ⟨b, 2, none⟩ = some z ∧ w.cell? ⟨b, 3, none⟩ = some u) ∧ (w.frozen? ⟨b, 0, none⟩ = false ∧ w.frozen? ⟨b, 1, none⟩ = false ∧ w.frozen? ⟨b, 2, none⟩ = false ∧ w.frozen? ⟨b, 3, none⟩ = false) := by
  refine ⟨⟨?_, ?_, ?_, ?_⟩, ⟨?_, ?_, ?_, ?_⟩⟩
  · unfold World.cell?; rw [h]; rfl
  · unfold World.cell?; rw [h]; rfl
  · unfold World.cell?; rw [h]; rfl
  · unfold World.cell?; rw [h]; rfl
  · unfold World.frozen?; rw [h]; rfl
  · unfold World.frozen?; rw [h]; rfl
  · unfold World.frozen?; rw [h]; rfl
  · unfold World.frozen?; rw [h]; rfl
theorem grown_block {w w' : World} {row : Option Nat} {b : Nat} {o : Obj} (hg : w.grownBy w' row) (h : w.heap[b]? = some o) (hne : some b ≠ row) : w'.heap[b]? = some o := by
  have hlt : b < w.heap.size := (Array.getElem?_eq_some_iff.1 h).1
  obtain ⟨_, _, _, _, h5⟩ := hg
  exact (h5 b hlt hne).trans h
theorem set_three {w : World} {g : Nat} {x y z u : Value} {t : TypeId} (h : w.heap[g]? = some (.cells #[x, y, z, u] t (0, 0))) (u' : Value) : (w.setCell ⟨g, 3, none⟩ u').heap[g]? = some (.cells #[x, y, z, u'] t (0, 0)) := heap_setCell_same w g 3 _ t u' h
/-- The way of a key in slots, as the model makes it. -/
structure TlAt (l : Prl) (key k y : Int) (ws : Prl) : Prop where
  c : ∀ (v : Value) (w : World), Prs w v l → Calls Try.prog 55 #[v, .int .i64 key] w fun e w' => ∃ a c, e = .returned (.agg #[.bool true, .int .i64 k, .int .i64 y, .slice a ws.length c]) ∧ w'.ownsRow w.heap.size 52 2 (.slice a ws.length c) ws.length ((fl ws).map (Value.int .i64)) ∧ Below w.heap.size w w'
set_option maxRecDepth 100000 in
set_option maxHeartbeats 1000000 in
theorem l6Trail_leaf (key k y : Int) : TlAt [(k, y)] key k y [] := by
  refine ⟨fun v w hv => ?_⟩
  obtain ⟨ad, c, rfl⟩ := hv.shape
  obtain ⟨-, b, off, rfl, hlt, hc⟩ := hv.at (by simp)
  have c0 : w.cell? ⟨b, off, none⟩ = some (.int .i64 k) := by simpa [pAt] using (hc 0 (by simp)).1
  have c1 : w.cell? ⟨b, off + 1, none⟩ = some (.int .i64 y) := by simpa [pAt] using (hc 0 (by simp)).2
  have hb0 := one_new (w := w) (.cells #[.bool false, .int .i64 0, .int .i64 0, .slice none 0 0] 31)
  have g0 := (hb0.cell (p := ⟨b, off, none⟩) hlt).trans c0
  have g1 := (hb0.cell (p := ⟨b, off + 1, none⟩) hlt).trans c1
  clear hv hc c0 c1 hlt
  go_enter Try.func55, Try.ntmps55
  go_wp2
  exact bodyPost_ret (v := .agg #[.bool true, .int .i64 k, .int .i64 y, .slice none 0 0]) (by simp [results, Try.results55, go_sem, *]) rfl ⟨none, 0, rfl, World.ownsRow_nil _ _ _ _, one_new _⟩
set_option maxRecDepth 100000 in
set_option maxHeartbeats 4000000 in
theorem l6Trail_fork0 {l : Prl} {b : Nat} {key k y x : Int} {ws : Prl} (hs : Sls l) (h2 : 2 ≤ l.length) (hb : FB l b) (hk : 0 ≤ key ∧ key ≤ 255) (hz : bitN key b = 0) (hw : ws.length ≤ 1000)
    (r : TlAt (sd l b 0) key k y ws) (o : RtAt (sd l b 1) x) : TlAt l key k y (ws ++ [((b : Int), x)]) := by
  refine ⟨fun v w hv => ?_⟩
  obtain ⟨i0, hi, hz0, hz1, hz2⟩ := info_parts Try.infoFo
  have hF := fun w' h => l6Fork_any v l b w' (hv.below h) hs h2 hb
  have hS := fun s w' h => l6Side_any v l b s w' (hv.below h) hs hb.le
  have hBt := fun w => l6Bit_any key b w hb.le hk
  rw [hz] at hBt
  have hn := hs.len
  obtain ⟨ad, c, rfl⟩ := hv.shape
  have TR := fun a c w h => r.c (.slice a (sd l b 0).length c) w h
  have RO := fun a c w h => o.c (.slice a (sd l b 1).length c) w h
  have SZ := hS 0
  have SO := hS 1
  generalize sd l b 0 = m0 at *
  generalize sd l b 1 = m1 at *
  generalize l.length = n at *
  have d2' : ((n : Int) == 1) = false := by simp; omega
  clear hv hs hS r o hb hz
  go_enter Try.func55, Try.ntmps55
  go_wp2_with fail
  refine (hF _ (one_new _)).mono ?_
  rintro e w1 ⟨rfl, hb1⟩
  have hB1 := below_after_of (one_new _) hb1
  clear hF
  go_wp2_with fail
  refine (hBt _).mono ?_
  rintro e w2 ⟨rfl, rfl⟩
  clear hBt
  go_wp2_with fail
  refine (SZ _ hB1).mono ?_
  rintro e w3 ⟨a3, c3, rfl, own3, hb3⟩
  have hB3 := below_after_of hB1 hb3
  have hr3 := below_after_of hb1 hb3
  clear SZ hB1 hb1 hb3
  go_wp2_with fail
  refine (TR _ _ _ (own_prs' own3)).mono ?_
  rintro e w4 ⟨a4, c4, rfl, own4, hb4⟩
  have hB4 := below_after_of hB3 hb4
  have hr4 := below_after_of hr3 hb4
  have hsz3 : w.heap.size + 1 ≤ w3.heap.size := by have := hr3.size; simpa using this
  have hsz4 : w3.heap.size ≤ w4.heap.size := hb4.size
  clear TR own3 hb4 hr3 hB3
  obtain ⟨W, hW⟩ : ∃ W, W = w4.alloc (.cells #[.bool true, .int .i64 k, .int .i64 y, .slice a4 ws.length c4] 31) := ⟨_, rfl⟩
  have HW : Hid (w4.alloc (.cells #[.bool true, .int .i64 k, .int .i64 y, .slice a4 ws.length c4] 31) = W) := hW.symm
  have hBW : Hid (Below w4.heap.size w4 W) := (by rw [hW]; exact one_new _ : Below w4.heap.size w4 W)
  have hBK : Hid (W.heap[w4.heap.size]? = some (.cells #[.bool true, .int .i64 k, .int .i64 y, .slice a4 ws.length c4] 31)) := (by rw [hW]; exact heap_alloc_new _ _ : W.heap[w4.heap.size]? = some (.cells #[.bool true, .int .i64 k, .int .i64 y, .slice a4 ws.length c4] 31))
  have hRK : Hid (W.heap[w.heap.size]? = some (.cells #[.bool false, .int .i64 0, .int .i64 0, .slice none 0 0] 31)) := ((hBW.out.block w.heap.size (by omega)).trans ((hr4.block w.heap.size (by simp)).trans (heap_alloc_new w _)))
  have hszW : w4.heap.size < W.heap.size := by rw [hW]; simp
  have hBB : Hid (Below w.heap.size w W) := below_after_of hB4 hBW.out
  have hOW : Hid (W.ownsRow w3.heap.size 52 2 (.slice a4 ws.length c4) ws.length ((fl ws).map (Value.int .i64))) := own_below own4 hBW.out
  have hlt4 : Hid (∀ k, (Value.slice a4 ws.length c4).ownBlock = some k → w3.heap.size ≤ k ∧ k < w4.heap.size) := fun k hk => own4.lt k hk
  clear hW hr4 hB4 own4
  go_wp2
  rw [HW.out]
  have hbr := Below.refl W.heap.size W
  have HC : Hid (∀ w', Below W.heap.size W w' → w'.heap[w4.heap.size]? = some (.cells #[.bool true, .int .i64 k, .int .i64 y, .slice a4 ws.length c4] 31)) := fun w' h => (h.block w4.heap.size hszW).trans hBK.out
  have k3 := (blk4V hBK.out).1.2.2.2
  have hw1 : IntKind.i64.wrap 1 = 1 := by rw [IntKind.wrap_i64]; decide
  go_region_law (first
      | (go_simp; go_at_call 95; refine (SO _ (by first | exact below_after_of hBB.out hbr | exact (below_after_of hBB.out hbr).drew)).mono ?_; rintro e wq ⟨aq, cq, rfl, ownq, hbq⟩; have hbr : Below W.heap.size W wq := (by first | exact below_after_of hbr hbq | exact below_after_of hbr.drew hbq); have kx := (blk4V (HC.out _ hbr)).1.2.2.2)
      | (go_simp; go_at_call 49; refine (RO _ _ _ (own_prs' ownq)).mono ?_; rintro e wr ⟨rfl, hbq2⟩; have hbr : Below W.heap.size W wr := below_after_of hbr hbq2; have ky := (blk4V (HC.out _ hbr)).1.2.2.2; have kz := (blk4V (HC.out _ (hbr.alloc hbr.size (.cells #[.int .i64 (b : Int), .int .i64 x] 52)))).1.2.2.2)
      | (refine step_append_lies _ (by rfl) _ _ _ (by rfl) w3.heap.size 52 i0 _ 2 16 Try.underlying29 hi hz0 hz1 hz2 rfl (by omega) (.slice a4 ws.length c4) ws.length ((fl ws).map (Value.int .i64)) (by rfl) ((own_below hOW.out hbr).alloc _) ⟨wr.heap.size, 0, none⟩ 1 1 [.int .i64 (b : Int), .int .i64 x] (by rfl) (by rfl) (World.news_of_block (cs := #[.int .i64 (b : Int), .int .i64 x]) (t := 52) (fr := (0, 0)) (heap_alloc_new wr _)) (ints_oneCell .i64 [(b : Int), x]) (by omega) (by unfold maxLen; omega) (by omega) (by have := hbr.size; simp; omega) (wr.heap.size + 1) (by simp) ?_; intro g cap w8 hown hgrow hat hlt; have kk := blk4V (grown_block hgrow (HC.out _ (hbr.alloc hbr.size _)) (fun e => by have := (hlt4.out _ e.symm).2; omega)); have kc := kk.1.2.2.2; have kf := kk.2.2.2.2))
  all_goals (
    have hbA := hbr.alloc hbr.size (.cells #[.int .i64 (b : Int), .int .i64 x] 52)
    have hnr : some w.heap.size ≠ (Value.slice a4 ws.length c4).ownBlock := fun e => by have := (hlt4.out _ e.symm).1; omega
    have hng : some w4.heap.size ≠ (Value.slice a4 ws.length c4).ownBlock := fun e => by have := (hlt4.out _ e.symm).2; omega
    have r8 := grown_block hgrow ((hbA.block w.heap.size (by omega)).trans hRK.out) hnr
    have t8 := grown_block hgrow (HC.out _ hbA) hng
    have hB8 : Below w.heap.size w w8 := (below_after_of hBB.out hbA).grown hgrow (by have := hbA.size; omega) (fun k hk => by have := (hlt4.out k hk).1; omega)
    have hg4 : g ≠ w4.heap.size := by
      rcases hat with hh | hh
      · have := (hlt4.out _ hh).2; omega
      · have := hbr.size; omega
    have own8 : w8.ownsRow w3.heap.size 52 2 (.slice (some ⟨g, 0, none⟩) (ws.length + 1) cap) (ws.length + 1) ((fl (ws ++ [((b : Int), x)])).map (Value.int .i64)) := by
      rw [fl_app, List.map_append]; exact hown
    obtain ⟨W9, hW9⟩ : ∃ W9, W9 = w8.setCell ⟨w4.heap.size, 3, none⟩ (.slice (some ⟨g, 0, none⟩) (ws.length + 1) cap) := ⟨_, rfl⟩
    have own9 : W9.ownsRow w3.heap.size 52 2 (.slice (some ⟨g, 0, none⟩) (ws.length + 1) cap) (ws.length + 1) ((fl (ws ++ [((b : Int), x)])).map (Value.int .i64)) := by
      rw [hW9]; exact ownsRow_setCell_other own8 (by simp [Value.ownBlock]; exact hg4) _
    have hB9 : Below w.heap.size w W9 := by rw [hW9]; exact hB8.setCell (by show w.heap.size ≤ w4.heap.size; omega) _
    obtain ⟨⟨p0, p1, p2, p3⟩, ⟨f0, f1, f2, f3⟩⟩ := blk4V ((heap_setCell_other w8 ⟨w4.heap.size, 3, none⟩ w.heap.size (.slice (some ⟨g, 0, none⟩) (ws.length + 1) cap) (by simp; omega)).trans r8)
    obtain ⟨⟨q0, q1, q2, q3⟩, -⟩ := blk4V (set_three t8 (.slice (some ⟨g, 0, none⟩) (ws.length + 1) cap))
    rw [← hW9] at p0 p1 p2 p3 f0 f1 f2 f3 q0 q1 q2 q3 ⊢
    have hlw : w.heap.size < w3.heap.size := by omega
    clear hown hgrow hat hlt kk kc kf hbA hnr hng r8 t8 hB8 hg4 own8 hW9 hbr k3 SO RO HC hRK hBK hBW hOW hlt4 hBB
    go_wp2
    exact bodyPost_ret (v := .agg #[.bool true, .int .i64 k, .int .i64 y, .slice (some ⟨g, 0, none⟩) (ws.length + 1) cap]) (by simp [results, Try.results55, go_sem, *]) rfl ⟨_, _, by rw [List.length_append]; rfl, own_mono (by rw [List.length_append]; exact ownsRow_setCell_below (ownsRow_setCell_below (ownsRow_setCell_below (ownsRow_setCell_below own9 hlw _) hlw _) hlw _) hlw _) (Nat.le_of_lt hlw), (((hB9.setCell (Nat.le_refl _) _).setCell (Nat.le_refl _) _).setCell (Nat.le_refl _) _).setCell (Nat.le_refl _) _⟩)
set_option maxRecDepth 100000 in
set_option maxHeartbeats 4000000 in
theorem l6Trail_fork1 {l : Prl} {b : Nat} {key k y x : Int} {ws : Prl} (hs : Sls l) (h2 : 2 ≤ l.length) (hb : FB l b) (hk : 0 ≤ key ∧ key ≤ 255) (hz : bitN key b = 1) (hw : ws.length ≤ 1000)
    (r : TlAt (sd l b 1) key k y ws) (o : RtAt (sd l b 0) x) : TlAt l key k y (ws ++ [((b : Int), x)]) := by
  refine ⟨fun v w hv => ?_⟩
  obtain ⟨i0, hi, hz0, hz1, hz2⟩ := info_parts Try.infoFo
  have hF := fun w' h => l6Fork_any v l b w' (hv.below h) hs h2 hb
  have hS := fun s w' h => l6Side_any v l b s w' (hv.below h) hs hb.le
  have hBt := fun w => l6Bit_any key b w hb.le hk
  rw [hz] at hBt
  have hn := hs.len
  obtain ⟨ad, c, rfl⟩ := hv.shape
  have TR := fun a c w h => r.c (.slice a (sd l b 1).length c) w h
  have RO := fun a c w h => o.c (.slice a (sd l b 0).length c) w h
  have SZ := hS 1
  have SO := hS 0
  generalize sd l b 1 = m0 at *
  generalize sd l b 0 = m1 at *
  generalize l.length = n at *
  have d2' : ((n : Int) == 1) = false := by simp; omega
  clear hv hs hS r o hb hz
  go_enter Try.func55, Try.ntmps55
  go_wp2_with fail
  refine (hF _ (one_new _)).mono ?_
  rintro e w1 ⟨rfl, hb1⟩
  have hB1 := below_after_of (one_new _) hb1
  clear hF
  go_wp2_with fail
  refine (hBt _).mono ?_
  rintro e w2 ⟨rfl, rfl⟩
  clear hBt
  go_wp2_with fail
  refine (SZ _ hB1).mono ?_
  rintro e w3 ⟨a3, c3, rfl, own3, hb3⟩
  have hB3 := below_after_of hB1 hb3
  have hr3 := below_after_of hb1 hb3
  clear SZ hB1 hb1 hb3
  go_wp2_with fail
  refine (TR _ _ _ (own_prs' own3)).mono ?_
  rintro e w4 ⟨a4, c4, rfl, own4, hb4⟩
  have hB4 := below_after_of hB3 hb4
  have hr4 := below_after_of hr3 hb4
  have hsz3 : w.heap.size + 1 ≤ w3.heap.size := by have := hr3.size; simpa using this
  have hsz4 : w3.heap.size ≤ w4.heap.size := hb4.size
  clear TR own3 hb4 hr3 hB3
  obtain ⟨W, hW⟩ : ∃ W, W = w4.alloc (.cells #[.bool true, .int .i64 k, .int .i64 y, .slice a4 ws.length c4] 31) := ⟨_, rfl⟩
  have HW : Hid (w4.alloc (.cells #[.bool true, .int .i64 k, .int .i64 y, .slice a4 ws.length c4] 31) = W) := hW.symm
  have hBW : Hid (Below w4.heap.size w4 W) := (by rw [hW]; exact one_new _ : Below w4.heap.size w4 W)
  have hBK : Hid (W.heap[w4.heap.size]? = some (.cells #[.bool true, .int .i64 k, .int .i64 y, .slice a4 ws.length c4] 31)) := (by rw [hW]; exact heap_alloc_new _ _ : W.heap[w4.heap.size]? = some (.cells #[.bool true, .int .i64 k, .int .i64 y, .slice a4 ws.length c4] 31))
  have hRK : Hid (W.heap[w.heap.size]? = some (.cells #[.bool false, .int .i64 0, .int .i64 0, .slice none 0 0] 31)) := ((hBW.out.block w.heap.size (by omega)).trans ((hr4.block w.heap.size (by simp)).trans (heap_alloc_new w _)))
  have hszW : w4.heap.size < W.heap.size := by rw [hW]; simp
  have hBB : Hid (Below w.heap.size w W) := below_after_of hB4 hBW.out
  have hOW : Hid (W.ownsRow w3.heap.size 52 2 (.slice a4 ws.length c4) ws.length ((fl ws).map (Value.int .i64))) := own_below own4 hBW.out
  have hlt4 : Hid (∀ k, (Value.slice a4 ws.length c4).ownBlock = some k → w3.heap.size ≤ k ∧ k < w4.heap.size) := fun k hk => own4.lt k hk
  clear hW hr4 hB4 own4
  go_wp2
  rw [HW.out]
  have hbr := Below.refl W.heap.size W
  have HC : Hid (∀ w', Below W.heap.size W w' → w'.heap[w4.heap.size]? = some (.cells #[.bool true, .int .i64 k, .int .i64 y, .slice a4 ws.length c4] 31)) := fun w' h => (h.block w4.heap.size hszW).trans hBK.out
  have k3 := (blk4V hBK.out).1.2.2.2
  have hw1 : IntKind.i64.wrap 0 = 0 := by rw [IntKind.wrap_i64]; decide
  go_region_law (first
      | (go_simp; go_at_call 95; refine (SO _ (by first | exact below_after_of hBB.out hbr | exact (below_after_of hBB.out hbr).drew)).mono ?_; rintro e wq ⟨aq, cq, rfl, ownq, hbq⟩; have hbr : Below W.heap.size W wq := (by first | exact below_after_of hbr hbq | exact below_after_of hbr.drew hbq); have kx := (blk4V (HC.out _ hbr)).1.2.2.2)
      | (go_simp; go_at_call 49; refine (RO _ _ _ (own_prs' ownq)).mono ?_; rintro e wr ⟨rfl, hbq2⟩; have hbr : Below W.heap.size W wr := below_after_of hbr hbq2; have ky := (blk4V (HC.out _ hbr)).1.2.2.2; have kz := (blk4V (HC.out _ (hbr.alloc hbr.size (.cells #[.int .i64 (b : Int), .int .i64 x] 52)))).1.2.2.2)
      | (refine step_append_lies _ (by rfl) _ _ _ (by rfl) w3.heap.size 52 i0 _ 2 16 Try.underlying29 hi hz0 hz1 hz2 rfl (by omega) (.slice a4 ws.length c4) ws.length ((fl ws).map (Value.int .i64)) (by rfl) ((own_below hOW.out hbr).alloc _) ⟨wr.heap.size, 0, none⟩ 1 1 [.int .i64 (b : Int), .int .i64 x] (by rfl) (by rfl) (World.news_of_block (cs := #[.int .i64 (b : Int), .int .i64 x]) (t := 52) (fr := (0, 0)) (heap_alloc_new wr _)) (ints_oneCell .i64 [(b : Int), x]) (by omega) (by unfold maxLen; omega) (by omega) (by have := hbr.size; simp; omega) (wr.heap.size + 1) (by simp) ?_; intro g cap w8 hown hgrow hat hlt; have kk := blk4V (grown_block hgrow (HC.out _ (hbr.alloc hbr.size _)) (fun e => by have := (hlt4.out _ e.symm).2; omega)); have kc := kk.1.2.2.2; have kf := kk.2.2.2.2))
  all_goals (
    have hbA := hbr.alloc hbr.size (.cells #[.int .i64 (b : Int), .int .i64 x] 52)
    have hnr : some w.heap.size ≠ (Value.slice a4 ws.length c4).ownBlock := fun e => by have := (hlt4.out _ e.symm).1; omega
    have hng : some w4.heap.size ≠ (Value.slice a4 ws.length c4).ownBlock := fun e => by have := (hlt4.out _ e.symm).2; omega
    have r8 := grown_block hgrow ((hbA.block w.heap.size (by omega)).trans hRK.out) hnr
    have t8 := grown_block hgrow (HC.out _ hbA) hng
    have hB8 : Below w.heap.size w w8 := (below_after_of hBB.out hbA).grown hgrow (by have := hbA.size; omega) (fun k hk => by have := (hlt4.out k hk).1; omega)
    have hg4 : g ≠ w4.heap.size := by
      rcases hat with hh | hh
      · have := (hlt4.out _ hh).2; omega
      · have := hbr.size; omega
    have own8 : w8.ownsRow w3.heap.size 52 2 (.slice (some ⟨g, 0, none⟩) (ws.length + 1) cap) (ws.length + 1) ((fl (ws ++ [((b : Int), x)])).map (Value.int .i64)) := by
      rw [fl_app, List.map_append]; exact hown
    obtain ⟨W9, hW9⟩ : ∃ W9, W9 = w8.setCell ⟨w4.heap.size, 3, none⟩ (.slice (some ⟨g, 0, none⟩) (ws.length + 1) cap) := ⟨_, rfl⟩
    have own9 : W9.ownsRow w3.heap.size 52 2 (.slice (some ⟨g, 0, none⟩) (ws.length + 1) cap) (ws.length + 1) ((fl (ws ++ [((b : Int), x)])).map (Value.int .i64)) := by
      rw [hW9]; exact ownsRow_setCell_other own8 (by simp [Value.ownBlock]; exact hg4) _
    have hB9 : Below w.heap.size w W9 := by rw [hW9]; exact hB8.setCell (by show w.heap.size ≤ w4.heap.size; omega) _
    obtain ⟨⟨p0, p1, p2, p3⟩, ⟨f0, f1, f2, f3⟩⟩ := blk4V ((heap_setCell_other w8 ⟨w4.heap.size, 3, none⟩ w.heap.size (.slice (some ⟨g, 0, none⟩) (ws.length + 1) cap) (by simp; omega)).trans r8)
    obtain ⟨⟨q0, q1, q2, q3⟩, -⟩ := blk4V (set_three t8 (.slice (some ⟨g, 0, none⟩) (ws.length + 1) cap))
    rw [← hW9] at p0 p1 p2 p3 f0 f1 f2 f3 q0 q1 q2 q3 ⊢
    have hlw : w.heap.size < w3.heap.size := by omega
    clear hown hgrow hat hlt kk kc kf hbA hnr hng r8 t8 hB8 hg4 own8 hW9 hbr k3 SO RO HC hRK hBK hBW hOW hlt4 hBB
    go_wp2
    exact bodyPost_ret (v := .agg #[.bool true, .int .i64 k, .int .i64 y, .slice (some ⟨g, 0, none⟩) (ws.length + 1) cap]) (by simp [results, Try.results55, go_sem, *]) rfl ⟨_, _, by rw [List.length_append]; rfl, own_mono (by rw [List.length_append]; exact ownsRow_setCell_below (ownsRow_setCell_below (ownsRow_setCell_below (ownsRow_setCell_below own9 hlw _) hlw _) hlw _) hlw _) (Nat.le_of_lt hlw), (((hB9.setCell (Nat.le_refl _) _).setCell (Nat.le_refl _) _).setCell (Nat.le_refl _) _).setCell (Nat.le_refl _) _⟩)
theorem l6Trail_any {l : Prl} {t : Tr} (h : IsTr l t) (key : Int) (hk : 0 ≤ key ∧ key ≤ 255) : Sls l → 0 < l.length → TlAt l key (t.near key).1 (t.near key).2 (t.way key) := by
  induction h using IsTr.ind with
  | none => intro _ h0; simp at h0
  | leaf k y => intro _ _; exact l6Trail_leaf key k y
  | fork h2 hb h3 h4 ih1 ih2 =>
    intro hs hz0
    rename_i l b L R
    have e3 := h3.forks
    have e4 := h4.forks
    have l3 := (sd_sls hs b 0).len
    have l4 := (sd_sls hs b 1).len
    have w3 := L.way_len key
    have w4 := R.way_len key
    rcases bitN_bd key b with hz | hz
    · have e1 : (Tr.fork b L R).near key = L.near key := by rw [Tr.near_fork, if_pos hz]
      have e2 : (Tr.fork b L R).way key = L.way key ++ [((b : Int), R.sum)] := by rw [Tr.way_fork, if_pos hz]
      rw [e1, e2]
      exact l6Trail_fork0 hs h2 hb hk hz (by omega) (ih1 (sd_sls hs b 0) (fb_some hb (by omega) (Or.inl rfl))) (l6Root_any h4 (sd_sls hs b 1))
    · have e1 : (Tr.fork b L R).near key = R.near key := by rw [Tr.near_fork, if_neg (by rw [hz]; decide)]
      have e2 : (Tr.fork b L R).way key = R.way key ++ [((b : Int), L.sum)] := by rw [Tr.way_fork, if_neg (by rw [hz]; decide)]
      rw [e1, e2]
      exact l6Trail_fork1 hs h2 hb hk hz (by omega) (ih2 (sd_sls hs b 1) (fb_some hb (by omega) (Or.inr rfl))) (l6Root_any h3 (sd_sls hs b 0))
end U
end Go.Proofs.Ytljbcpkjhnbpeaa
