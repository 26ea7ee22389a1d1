/- A reply that is seen: what the model answers. -/
import Derived.Test.YtdbbmclobmigdaaGreatGSD
import Derived.Test.YtdbbmclobmigdaaGreatGSE
import Derived.Test.YtdbbmclobmigdaaGreatGSC
import Derived.Deep.Cut
namespace Go.Proofs.YtdbbmclobmigdaaGreat
open Go.RowKit
namespace U
theorem three_new {w : World} (o o' o'' : Obj) : Below w.heap.size w (((w.alloc o).alloc o').alloc o'') := (two_new o o').alloc (two_new (w := w) o o').size _
theorem put_rec6 {w : World} {g : Nat} {x0 x1 x2 x3 x4 x5 : Value} {t : TypeId} (h : w.heap[g]? = some (.cells #[x0, x1, x2, x3, x4, x5] t)) (y1 y2 y3 y4 : Value) : ((((w.setCell ⟨g, 2, none⟩ y1).setCell ⟨g, 3, none⟩ y2).setCell ⟨g, 4, none⟩ y3).setCell ⟨g, 5, none⟩ y4).heap[g]? = some (.cells #[x0, x1, y1, y2, y3, y4] t) := by
  have h1 := heap_setCell_same w g 2 _ _ y1 h
  have h2 := heap_setCell_same _ g 3 _ _ y2 h1
  have h3 := heap_setCell_same _ g 4 _ _ y3 h2
  have h4 := heap_setCell_same _ g 5 _ _ y4 h3
  simpa using h4
theorem other_rec6 {w : World} {b g : Nat} (h : ¬ g = b) (y1 y2 y3 y4 : Value) : ((((w.setCell ⟨b, 2, none⟩ y1).setCell ⟨b, 3, none⟩ y2).setCell ⟨b, 4, none⟩ y3).setCell ⟨b, 5, none⟩ y4).heap[g]? = w.heap[g]? :=
  ((heap_setCell_other _ ⟨b, 5, none⟩ g _ h).trans (heap_setCell_other _ ⟨b, 4, none⟩ g _ h)).trans ((heap_setCell_other _ ⟨b, 3, none⟩ g _ h).trans (heap_setCell_other _ ⟨b, 2, none⟩ g _ h))
theorem see_boxes (w : World) (he hp ho hn hv : Int) (e : Int) (hl : Bool) (l : ByteArray) (v o p : Int) (so st : Bool) (sv : Int) (sp : Value) (sx : Bool) (sk sy : Int) (sf : Value) :
    HdS (((w.alloc (.cells #[.int .i64 he, .int .i64 hp, .int .i64 ho, .int .i64 hn, .int .i64 hv] 43)).alloc (.cells #[.int .i64 e, .bool hl, .string l, .int .i64 v, .int .i64 o, .int .i64 p, .bool so, .bool st, .int .i64 sv, sp, .bool sx, .int .i64 sk, .int .i64 sy, sf] 52)).alloc (.cells #[.int .i64 0, .int .i64 0, .bool false, .string ⟨#[]⟩, .int .i64 0, .int .i64 0, .int .i64 0] 41)) w.heap.size 0 ⟨he, hp, ho, hn, hv⟩ ∧ RpB (((w.alloc (.cells #[.int .i64 he, .int .i64 hp, .int .i64 ho, .int .i64 hn, .int .i64 hv] 43)).alloc (.cells #[.int .i64 e, .bool hl, .string l, .int .i64 v, .int .i64 o, .int .i64 p, .bool so, .bool st, .int .i64 sv, sp, .bool sx, .int .i64 sk, .int .i64 sy, sf] 52)).alloc (.cells #[.int .i64 0, .int .i64 0, .bool false, .string ⟨#[]⟩, .int .i64 0, .int .i64 0, .int .i64 0] 41)) (w.heap.size + 1) e hl l v o p so st sv sp sx sk sy sf ∧ (((w.alloc (.cells #[.int .i64 he, .int .i64 hp, .int .i64 ho, .int .i64 hn, .int .i64 hv] 43)).alloc (.cells #[.int .i64 e, .bool hl, .string l, .int .i64 v, .int .i64 o, .int .i64 p, .bool so, .bool st, .int .i64 sv, sp, .bool sx, .int .i64 sk, .int .i64 sy, sf] 52)).alloc (.cells #[.int .i64 0, .int .i64 0, .bool false, .string ⟨#[]⟩, .int .i64 0, .int .i64 0, .int .i64 0] 41)).heap[w.heap.size + 2]? = some (.cells #[.int .i64 0, .int .i64 0, .bool false, .string ⟨#[]⟩, .int .i64 0, .int .i64 0, .int .i64 0] 41) := by
  have e1 : (w.alloc (.cells #[.int .i64 he, .int .i64 hp, .int .i64 ho, .int .i64 hn, .int .i64 hv] 43)).heap.size = w.heap.size + 1 := by simp
  have e2 : ((w.alloc (.cells #[.int .i64 he, .int .i64 hp, .int .i64 ho, .int .i64 hn, .int .i64 hv] 43)).alloc (.cells #[.int .i64 e, .bool hl, .string l, .int .i64 v, .int .i64 o, .int .i64 p, .bool so, .bool st, .int .i64 sv, sp, .bool sx, .int .i64 sk, .int .i64 sy, sf] 52)).heap.size = w.heap.size + 2 := by simp
  refine ⟨((HdS.new w ⟨he, hp, ho, hn, hv⟩ _).below (one_new _) (by simp)).below (one_new _) (by simp; omega), ?_, ?_⟩
  · rw [← e1]; exact (RpB.new _ e hl l v o p so st sv sp sx sk sy sf).below (one_new _)
  · rw [← e2]; exact heap_alloc_new _ _
theorem see_below {W w' : World} {he hp ho hn hv : Int} {g : Nat} {e : Int} {hl : Bool} {l : ByteArray} {v o p : Int} {so st : Bool} {sv : Int} {sp : Value} {sx : Bool} {sk sy : Int} {sf : Value} {O : Obj} (h : HdS W g 0 ⟨he, hp, ho, hn, hv⟩ ∧ RpB W (g + 1) e hl l v o p so st sv sp sx sk sy sf ∧ W.heap[g + 2]? = some O) (hb : Below W.heap.size W w') : HdS w' g 0 ⟨he, hp, ho, hn, hv⟩ ∧ RpB w' (g + 1) e hl l v o p so st sv sp sx sk sy sf ∧ w'.heap[g + 2]? = some O := by
  have hlt := (Array.getElem?_eq_some_iff.1 h.2.2).1
  exact ⟨h.1.below hb (by omega), h.2.1.below hb, (hb.block _ hlt).trans h.2.2⟩
set_option maxRecDepth 100000 in
set_option maxHeartbeats 4000000 in
theorem see_h (he hp ho hn hv : Int) (s : ByteArray) (e : Int) (hl : Bool) (l : ByteArray) (v o p : Int) (so st : Bool) (sv : Int) (sp : Value) (sx : Bool) (sk sy : Int) (sf : Value) (ps : List Int) (f : Prl) (w : World) (hp0 : Ints .i64 w sp ps) (hv0 : Prs w sf f) (hs0 : l.size ≤ 1048576) (hpl : ps.length ≤ 1048576) (h0 : ¬ hdC he hp ho hn hv = 0) :
    Calls Tryz.prog 8 #[hdV he hp ho hn hv, .string s, rpV e hl l v o p so st sv sp sx sk sy sf] w fun x w' => x = .returned (.agg #[.int .i64 (hdC he hp ho hn hv), .int .i64 0, .bool false, .string ⟨#[]⟩, .int .i64 0, .int .i64 0, .int .i64 0]) ∧ Below w.heap.size w w' := by
  obtain ⟨a, c, rfl⟩ := hp0.shape
  obtain ⟨a', c', rfl⟩ := hv0.shape
  obtain ⟨W, hW⟩ : ∃ W, W = ((w.alloc (.cells #[.int .i64 he, .int .i64 hp, .int .i64 ho, .int .i64 hn, .int .i64 hv] 43)).alloc (.cells #[.int .i64 e, .bool hl, .string l, .int .i64 v, .int .i64 o, .int .i64 p, .bool so, .bool st, .int .i64 sv, .slice a ps.length c, .bool sx, .int .i64 sk, .int .i64 sy, .slice a' f.length c'] 52)).alloc (.cells #[.int .i64 0, .int .i64 0, .bool false, .string ⟨#[]⟩, .int .i64 0, .int .i64 0, .int .i64 0] 41) := ⟨_, rfl⟩
  have HW : Hid (((w.alloc (.cells #[.int .i64 he, .int .i64 hp, .int .i64 ho, .int .i64 hn, .int .i64 hv] 43)).alloc (.cells #[.int .i64 e, .bool hl, .string l, .int .i64 v, .int .i64 o, .int .i64 p, .bool so, .bool st, .int .i64 sv, .slice a ps.length c, .bool sx, .int .i64 sk, .int .i64 sy, .slice a' f.length c'] 52)).alloc (.cells #[.int .i64 0, .int .i64 0, .bool false, .string ⟨#[]⟩, .int .i64 0, .int .i64 0, .int .i64 0] 41) = W) := hW.symm
  have hB : Below w.heap.size w W := by rw [hW]; exact three_new _ _ _
  have A0 : HdS W w.heap.size 0 ⟨he, hp, ho, hn, hv⟩ ∧ RpB W (w.heap.size + 1) e hl l v o p so st sv (.slice a ps.length c) sx sk sy (.slice a' f.length c') ∧ W.heap[w.heap.size + 2]? = some (.cells #[.int .i64 0, .int .i64 0, .bool false, .string ⟨#[]⟩, .int .i64 0, .int .i64 0, .int .i64 0] 41) := by rw [hW]; exact see_boxes w he hp ho hn hv e hl l v o p so st sv _ sx sk sy _
  have HK : Hid (∀ w', Below W.heap.size W w' → HdS w' w.heap.size 0 ⟨he, hp, ho, hn, hv⟩ ∧ RpB w' (w.heap.size + 1) e hl l v o p so st sv (.slice a ps.length c) sx sk sy (.slice a' f.length c') ∧ w'.heap[w.heap.size + 2]? = some (.cells #[.int .i64 0, .int .i64 0, .bool false, .string ⟨#[]⟩, .int .i64 0, .int .i64 0, .int .i64 0] 41)) := fun w' hb => see_below A0 hb
  have hF := l10Fault_any w.heap.size 0 he hp ho hn hv W A0.1
  have hRf := fun w' (hb : Below W.heap.size W w') => l13Fault_any (w.heap.size + 1) e hl l v o p so st sv a ps.length c sx sk sy a' f.length c' (tlZ sx sk sy f) w' (A0.2.1.below hb) (tlZ_how sx sk sy f) hs0
  have hRt := fun w' (hb : Below W.heap.size W w') => l13Root_any w.heap.size so he hp ho hn hv w' (see_below A0 hb).1
  have hTk := fun w' (hb : Below W.heap.size W w') => l13Taken_any (w.heap.size + 1) (keyI s) (rootV so ho hn) e hl l v o p so st sv _ sx sk sy _ ps f w' (A0.2.1.below hb) (hp0.below (below_after_of hB hb)) (hv0.below (below_after_of hB hb)) hpl
  clear hRf hRt hTk
  have h1 := code_ne h0
  generalize hdC he hp ho hn hv = q at *
  generalize ps.length = pn at *
  generalize f.length = fn at *
  unfold hdV rpV
  clear hW hp0 hv0 A0
  go_enter Tryz.func8, Tryz.ntmps8
  go_wp2_with fail
  rw [HW.out]
  refine (hF).mono ?_
  rintro x w1 ⟨rfl, hb1⟩
  have hC1 := hb1
  clear hb1
  obtain ⟨c0, c1, c2, c3, c4, c5, c6, f0, f1, f2, f3, f4, f5, f6⟩ := seven_cells (HK.out _ hC1).2.2
  have hBB := below_after_of hB hC1
  clear hF HK hC1 h0
  go_wp2
  exact bodyPost_ret (v := .agg #[.int .i64 q, .int .i64 0, .bool false, .string ⟨#[]⟩, .int .i64 0, .int .i64 0, .int .i64 0]) (by simp [results, Tryz.results8, go_sem, *]) rfl ⟨rfl, set7 hBB (by omega) _ _ _ _ _ _ _⟩
set_option maxRecDepth 100000 in
set_option maxHeartbeats 4000000 in
theorem see_l (he hp ho hn hv : Int) (s : ByteArray) (e : Int) (hl : Bool) (l : ByteArray) (v o p : Int) (so st : Bool) (sv : Int) (sp : Value) (sx : Bool) (sk sy : Int) (sf : Value) (ps : List Int) (f : Prl) (w : World) (hp0 : Ints .i64 w sp ps) (hv0 : Prs w sf f) (hs0 : l.size ≤ 1048576) (hpl : ps.length ≤ 1048576) (hls : s.size ≤ 1048576) (h0 : hdC he hp ho hn hv = 0) (h2 : ¬ labelP s = 0) :
    Calls Tryz.prog 8 #[hdV he hp ho hn hv, .string s, rpV e hl l v o p so st sv sp sx sk sy sf] w fun x w' => x = .returned (.agg #[.int .i64 (labelP s), .int .i64 0, .bool false, .string ⟨#[]⟩, .int .i64 0, .int .i64 0, .int .i64 0]) ∧ Below w.heap.size w w' := by
  obtain ⟨a, c, rfl⟩ := hp0.shape
  obtain ⟨a', c', rfl⟩ := hv0.shape
  obtain ⟨W, hW⟩ : ∃ W, W = ((w.alloc (.cells #[.int .i64 he, .int .i64 hp, .int .i64 ho, .int .i64 hn, .int .i64 hv] 43)).alloc (.cells #[.int .i64 e, .bool hl, .string l, .int .i64 v, .int .i64 o, .int .i64 p, .bool so, .bool st, .int .i64 sv, .slice a ps.length c, .bool sx, .int .i64 sk, .int .i64 sy, .slice a' f.length c'] 52)).alloc (.cells #[.int .i64 0, .int .i64 0, .bool false, .string ⟨#[]⟩, .int .i64 0, .int .i64 0, .int .i64 0] 41) := ⟨_, rfl⟩
  have HW : Hid (((w.alloc (.cells #[.int .i64 he, .int .i64 hp, .int .i64 ho, .int .i64 hn, .int .i64 hv] 43)).alloc (.cells #[.int .i64 e, .bool hl, .string l, .int .i64 v, .int .i64 o, .int .i64 p, .bool so, .bool st, .int .i64 sv, .slice a ps.length c, .bool sx, .int .i64 sk, .int .i64 sy, .slice a' f.length c'] 52)).alloc (.cells #[.int .i64 0, .int .i64 0, .bool false, .string ⟨#[]⟩, .int .i64 0, .int .i64 0, .int .i64 0] 41) = W) := hW.symm
  have hB : Below w.heap.size w W := by rw [hW]; exact three_new _ _ _
  have A0 : HdS W w.heap.size 0 ⟨he, hp, ho, hn, hv⟩ ∧ RpB W (w.heap.size + 1) e hl l v o p so st sv (.slice a ps.length c) sx sk sy (.slice a' f.length c') ∧ W.heap[w.heap.size + 2]? = some (.cells #[.int .i64 0, .int .i64 0, .bool false, .string ⟨#[]⟩, .int .i64 0, .int .i64 0, .int .i64 0] 41) := by rw [hW]; exact see_boxes w he hp ho hn hv e hl l v o p so st sv _ sx sk sy _
  have HK : Hid (∀ w', Below W.heap.size W w' → HdS w' w.heap.size 0 ⟨he, hp, ho, hn, hv⟩ ∧ RpB w' (w.heap.size + 1) e hl l v o p so st sv (.slice a ps.length c) sx sk sy (.slice a' f.length c') ∧ w'.heap[w.heap.size + 2]? = some (.cells #[.int .i64 0, .int .i64 0, .bool false, .string ⟨#[]⟩, .int .i64 0, .int .i64 0, .int .i64 0] 41)) := fun w' hb => see_below A0 hb
  have hF := l10Fault_any w.heap.size 0 he hp ho hn hv W A0.1
  have hRf := fun w' (hb : Below W.heap.size W w') => l13Fault_any (w.heap.size + 1) e hl l v o p so st sv a ps.length c sx sk sy a' f.length c' (tlZ sx sk sy f) w' (A0.2.1.below hb) (tlZ_how sx sk sy f) hs0
  have hRt := fun w' (hb : Below W.heap.size W w') => l13Root_any w.heap.size so he hp ho hn hv w' (see_below A0 hb).1
  have hTk := fun w' (hb : Below W.heap.size W w') => l13Taken_any (w.heap.size + 1) (keyI s) (rootV so ho hn) e hl l v o p so st sv _ sx sk sy _ ps f w' (A0.2.1.below hb) (hp0.below (below_after_of hB hb)) (hv0.below (below_after_of hB hb)) hpl
  clear hRf hRt hTk
  have hL := fun w => l1Label_any s w hls
  have h1 := code_ne h2
  rw [h0] at hF
  clear h0
  generalize labelP s = q at *
  generalize ps.length = pn at *
  generalize f.length = fn at *
  unfold hdV rpV
  clear hW hp0 hv0 A0
  go_enter Tryz.func8, Tryz.ntmps8
  go_wp2_with fail
  rw [HW.out]
  refine (hF).mono ?_
  rintro x w1 ⟨rfl, hb1⟩
  have hC1 := hb1
  clear hb1
  go_wp2_with fail
  refine (hL _).mono ?_
  rintro x w2 ⟨rfl, hb2⟩
  have hC2 := below_after_of hC1 hb2
  clear hb2
  obtain ⟨c0, c1, c2, c3, c4, c5, c6, f0, f1, f2, f3, f4, f5, f6⟩ := seven_cells (HK.out _ hC2).2.2
  have hBB := below_after_of hB hC2
  clear hF hL HK hC1 hC2 h2
  go_wp2
  exact bodyPost_ret (v := .agg #[.int .i64 q, .int .i64 0, .bool false, .string ⟨#[]⟩, .int .i64 0, .int .i64 0, .int .i64 0]) (by simp [results, Tryz.results8, go_sem, *]) rfl ⟨rfl, set7 hBB (by omega) _ _ _ _ _ _ _⟩
set_option maxRecDepth 100000 in
set_option maxHeartbeats 4000000 in
theorem see_r (he hp ho hn hv : Int) (s : ByteArray) (e : Int) (hl : Bool) (l : ByteArray) (v o p : Int) (so st : Bool) (sv : Int) (sp : Value) (sx : Bool) (sk sy : Int) (sf : Value) (ps : List Int) (f : Prl) (w : World) (hp0 : Ints .i64 w sp ps) (hv0 : Prs w sf f) (hs0 : l.size ≤ 1048576) (hpl : ps.length ≤ 1048576) (hls : s.size ≤ 1048576) (h0 : hdC he hp ho hn hv = 0) (h2 : labelP s = 0) (h3 : ¬ rpC e hl l v o p st sv (sdC so st sv ps.length (tlZ sx sk sy f)) = 0) :
    Calls Tryz.prog 8 #[hdV he hp ho hn hv, .string s, rpV e hl l v o p so st sv sp sx sk sy sf] w fun x w' => x = .returned (.agg #[.int .i64 (rpC e hl l v o p st sv (sdC so st sv ps.length (tlZ sx sk sy f))), .int .i64 0, .bool false, .string ⟨#[]⟩, .int .i64 0, .int .i64 0, .int .i64 0]) ∧ Below w.heap.size w w' := by
  obtain ⟨a, c, rfl⟩ := hp0.shape
  obtain ⟨a', c', rfl⟩ := hv0.shape
  obtain ⟨W, hW⟩ : ∃ W, W = ((w.alloc (.cells #[.int .i64 he, .int .i64 hp, .int .i64 ho, .int .i64 hn, .int .i64 hv] 43)).alloc (.cells #[.int .i64 e, .bool hl, .string l, .int .i64 v, .int .i64 o, .int .i64 p, .bool so, .bool st, .int .i64 sv, .slice a ps.length c, .bool sx, .int .i64 sk, .int .i64 sy, .slice a' f.length c'] 52)).alloc (.cells #[.int .i64 0, .int .i64 0, .bool false, .string ⟨#[]⟩, .int .i64 0, .int .i64 0, .int .i64 0] 41) := ⟨_, rfl⟩
  have HW : Hid (((w.alloc (.cells #[.int .i64 he, .int .i64 hp, .int .i64 ho, .int .i64 hn, .int .i64 hv] 43)).alloc (.cells #[.int .i64 e, .bool hl, .string l, .int .i64 v, .int .i64 o, .int .i64 p, .bool so, .bool st, .int .i64 sv, .slice a ps.length c, .bool sx, .int .i64 sk, .int .i64 sy, .slice a' f.length c'] 52)).alloc (.cells #[.int .i64 0, .int .i64 0, .bool false, .string ⟨#[]⟩, .int .i64 0, .int .i64 0, .int .i64 0] 41) = W) := hW.symm
  have hB : Below w.heap.size w W := by rw [hW]; exact three_new _ _ _
  have A0 : HdS W w.heap.size 0 ⟨he, hp, ho, hn, hv⟩ ∧ RpB W (w.heap.size + 1) e hl l v o p so st sv (.slice a ps.length c) sx sk sy (.slice a' f.length c') ∧ W.heap[w.heap.size + 2]? = some (.cells #[.int .i64 0, .int .i64 0, .bool false, .string ⟨#[]⟩, .int .i64 0, .int .i64 0, .int .i64 0] 41) := by rw [hW]; exact see_boxes w he hp ho hn hv e hl l v o p so st sv _ sx sk sy _
  have HK : Hid (∀ w', Below W.heap.size W w' → HdS w' w.heap.size 0 ⟨he, hp, ho, hn, hv⟩ ∧ RpB w' (w.heap.size + 1) e hl l v o p so st sv (.slice a ps.length c) sx sk sy (.slice a' f.length c') ∧ w'.heap[w.heap.size + 2]? = some (.cells #[.int .i64 0, .int .i64 0, .bool false, .string ⟨#[]⟩, .int .i64 0, .int .i64 0, .int .i64 0] 41)) := fun w' hb => see_below A0 hb
  have hF := l10Fault_any w.heap.size 0 he hp ho hn hv W A0.1
  have hRf := fun w' (hb : Below W.heap.size W w') => l13Fault_any (w.heap.size + 1) e hl l v o p so st sv a ps.length c sx sk sy a' f.length c' (tlZ sx sk sy f) w' (A0.2.1.below hb) (tlZ_how sx sk sy f) hs0
  have hRt := fun w' (hb : Below W.heap.size W w') => l13Root_any w.heap.size so he hp ho hn hv w' (see_below A0 hb).1
  have hTk := fun w' (hb : Below W.heap.size W w') => l13Taken_any (w.heap.size + 1) (keyI s) (rootV so ho hn) e hl l v o p so st sv _ sx sk sy _ ps f w' (A0.2.1.below hb) (hp0.below (below_after_of hB hb)) (hv0.below (below_after_of hB hb)) hpl
  clear hRt hTk
  have hL := fun w => l1Label_any s w hls
  have h1 := code_ne h3
  rw [h0] at hF
  rw [h2] at hL
  clear h0 h2
  generalize rpC e hl l v o p st sv (sdC so st sv ps.length (tlZ sx sk sy f)) = q at *
  generalize ps.length = pn at *
  generalize f.length = fn at *
  unfold hdV rpV
  clear hW hp0 hv0 A0
  go_enter Tryz.func8, Tryz.ntmps8
  go_wp2_with fail
  rw [HW.out]
  refine (hF).mono ?_
  rintro x w1 ⟨rfl, hb1⟩
  have hC1 := hb1
  clear hb1
  go_wp2_with fail
  refine (hL _).mono ?_
  rintro x w2 ⟨rfl, hb2⟩
  have hC2 := below_after_of hC1 hb2
  clear hb2
  go_wp2_with fail
  refine (hRf _ hC2).mono ?_
  rintro x w3 ⟨rfl, hb3⟩
  have hC3 := below_after_of hC2 hb3
  clear hb3
  obtain ⟨c0, c1, c2, c3, c4, c5, c6, f0, f1, f2, f3, f4, f5, f6⟩ := seven_cells (HK.out _ hC3).2.2
  have hBB := below_after_of hB hC3
  clear hF hL hRf HK hC1 hC2 hC3 h3
  go_wp2
  exact bodyPost_ret (v := .agg #[.int .i64 q, .int .i64 0, .bool false, .string ⟨#[]⟩, .int .i64 0, .int .i64 0, .int .i64 0]) (by simp [results, Tryz.results8, go_sem, *]) rfl ⟨rfl, set7 hBB (by omega) _ _ _ _ _ _ _⟩
set_option maxRecDepth 100000 in
set_option maxHeartbeats 4000000 in
theorem see_s1 (he hp ho hn hv : Int) (s : ByteArray) (e : Int) (hl : Bool) (l : ByteArray) (v o p : Int) (so st : Bool) (sv : Int) (sp : Value) (sx : Bool) (sk sy : Int) (sf : Value) (ps : List Int) (f : Prl) (w : World) (hp0 : Ints .i64 w sp ps) (hv0 : Prs w sf f) (hs0 : l.size ≤ 1048576) (hpl : ps.length ≤ 1048576) (hls : s.size ≤ 1048576) (h0 : hdC he hp ho hn hv = 0) (h2 : labelP s = 0) (h3 : rpC e hl l v o p st sv (sdC so st sv ps.length (tlZ sx sk sy f)) = 0) (h4 : rootB so hp = false) :
    Calls Tryz.prog 8 #[hdV he hp ho hn hv, .string s, rpV e hl l v o p so st sv sp sx sk sy sf] w fun x w' => x = .returned (.agg #[.int .i64 10, .int .i64 0, .bool false, .string ⟨#[]⟩, .int .i64 0, .int .i64 0, .int .i64 0]) ∧ Below w.heap.size w w' := by
  obtain ⟨a, c, rfl⟩ := hp0.shape
  obtain ⟨a', c', rfl⟩ := hv0.shape
  obtain ⟨W, hW⟩ : ∃ W, W = ((w.alloc (.cells #[.int .i64 he, .int .i64 hp, .int .i64 ho, .int .i64 hn, .int .i64 hv] 43)).alloc (.cells #[.int .i64 e, .bool hl, .string l, .int .i64 v, .int .i64 o, .int .i64 p, .bool so, .bool st, .int .i64 sv, .slice a ps.length c, .bool sx, .int .i64 sk, .int .i64 sy, .slice a' f.length c'] 52)).alloc (.cells #[.int .i64 0, .int .i64 0, .bool false, .string ⟨#[]⟩, .int .i64 0, .int .i64 0, .int .i64 0] 41) := ⟨_, rfl⟩
  have HW : Hid (((w.alloc (.cells #[.int .i64 he, .int .i64 hp, .int .i64 ho, .int .i64 hn, .int .i64 hv] 43)).alloc (.cells #[.int .i64 e, .bool hl, .string l, .int .i64 v, .int .i64 o, .int .i64 p, .bool so, .bool st, .int .i64 sv, .slice a ps.length c, .bool sx, .int .i64 sk, .int .i64 sy, .slice a' f.length c'] 52)).alloc (.cells #[.int .i64 0, .int .i64 0, .bool false, .string ⟨#[]⟩, .int .i64 0, .int .i64 0, .int .i64 0] 41) = W) := hW.symm
  have hB : Below w.heap.size w W := by rw [hW]; exact three_new _ _ _
  have A0 : HdS W w.heap.size 0 ⟨he, hp, ho, hn, hv⟩ ∧ RpB W (w.heap.size + 1) e hl l v o p so st sv (.slice a ps.length c) sx sk sy (.slice a' f.length c') ∧ W.heap[w.heap.size + 2]? = some (.cells #[.int .i64 0, .int .i64 0, .bool false, .string ⟨#[]⟩, .int .i64 0, .int .i64 0, .int .i64 0] 41) := by rw [hW]; exact see_boxes w he hp ho hn hv e hl l v o p so st sv _ sx sk sy _
  have HK : Hid (∀ w', Below W.heap.size W w' → HdS w' w.heap.size 0 ⟨he, hp, ho, hn, hv⟩ ∧ RpB w' (w.heap.size + 1) e hl l v o p so st sv (.slice a ps.length c) sx sk sy (.slice a' f.length c') ∧ w'.heap[w.heap.size + 2]? = some (.cells #[.int .i64 0, .int .i64 0, .bool false, .string ⟨#[]⟩, .int .i64 0, .int .i64 0, .int .i64 0] 41)) := fun w' hb => see_below A0 hb
  have hF := l10Fault_any w.heap.size 0 he hp ho hn hv W A0.1
  have hRf := fun w' (hb : Below W.heap.size W w') => l13Fault_any (w.heap.size + 1) e hl l v o p so st sv a ps.length c sx sk sy a' f.length c' (tlZ sx sk sy f) w' (A0.2.1.below hb) (tlZ_how sx sk sy f) hs0
  have hRt := fun w' (hb : Below W.heap.size W w') => l13Root_any w.heap.size so he hp ho hn hv w' (see_below A0 hb).1
  have hTk := fun w' (hb : Below W.heap.size W w') => l13Taken_any (w.heap.size + 1) (keyI s) (rootV so ho hn) e hl l v o p so st sv _ sx sk sy _ ps f w' (A0.2.1.below hb) (hp0.below (below_after_of hB hb)) (hv0.below (below_after_of hB hb)) hpl
  have hL := fun w => l1Label_any s w hls
  rw [h0] at hF
  rw [h2] at hL
  rw [h3] at hRf
  clear h0 h2 h3
  rw [h4] at hRt
  clear hTk h4
  generalize rootV so ho hn = rv at *
  generalize ps.length = pn at *
  generalize f.length = fn at *
  unfold hdV rpV
  clear hW hp0 hv0 A0
  go_enter Tryz.func8, Tryz.ntmps8
  go_wp2_with fail
  rw [HW.out]
  refine (hF).mono ?_
  rintro x w1 ⟨rfl, hb1⟩
  have hC1 := hb1
  clear hb1
  go_wp2_with fail
  refine (hL _).mono ?_
  rintro x w2 ⟨rfl, hb2⟩
  have hC2 := below_after_of hC1 hb2
  clear hb2
  go_wp2_with fail
  refine (hRf _ hC2).mono ?_
  rintro x w3 ⟨rfl, hb3⟩
  have hC3 := below_after_of hC2 hb3
  clear hb3
  obtain ⟨k0, k1, k2, k3, k4, k5, k6, k7, k8, k9, k10, k11, k12, k13⟩ := (HK.out _ hC3).2.1.cells
  go_wp2_with fail
  refine (hRt _ hC3).mono ?_
  rintro x w4 ⟨rfl, hb4⟩
  have hC4 := below_after_of hC3 hb4
  clear hb4
  clear k0 k1 k2 k3 k4 k5 k6 k7 k8 k9 k10 k11 k12 k13
  obtain ⟨k0, k1, k2, k3, k4, k5, k6, k7, k8, k9, k10, k11, k12, k13⟩ := (HK.out _ hC4).2.1.cells
  have d0 := (HK.out _ hC4).1.c0
  obtain ⟨c0, c1, c2, c3, c4, c5, c6, f0, f1, f2, f3, f4, f5, f6⟩ := seven_cells (HK.out _ hC4).2.2
  have hBB := below_after_of hB hC4
  clear hF hL hRf hRt HK hC1 hC2 hC3 hC4 d0 k0 k1 k2 k3 k4 k5 k6 k7 k8 k9 k10 k11 k12 k13
  go_wp2
  exact bodyPost_ret (v := .agg #[.int .i64 10, .int .i64 0, .bool false, .string ⟨#[]⟩, .int .i64 0, .int .i64 0, .int .i64 0]) (by simp [results, Tryz.results8, go_sem, *]) rfl ⟨rfl, set7 hBB (by omega) _ _ _ _ _ _ _⟩
set_option maxRecDepth 100000 in
set_option maxHeartbeats 4000000 in
theorem see_s2 (he hp ho hn hv : Int) (s : ByteArray) (e : Int) (hl : Bool) (l : ByteArray) (v o p : Int) (so st : Bool) (sv : Int) (sp : Value) (sx : Bool) (sk sy : Int) (sf : Value) (ps : List Int) (f : Prl) (w : World) (hp0 : Ints .i64 w sp ps) (hv0 : Prs w sf f) (hs0 : l.size ≤ 1048576) (hpl : ps.length ≤ 1048576) (hls : s.size ≤ 1048576) (h0 : hdC he hp ho hn hv = 0) (h2 : labelP s = 0) (h3 : rpC e hl l v o p st sv (sdC so st sv ps.length (tlZ sx sk sy f)) = 0) (h4 : rootB so hp = true) (h5 : ¬ e = he) :
    Calls Tryz.prog 8 #[hdV he hp ho hn hv, .string s, rpV e hl l v o p so st sv sp sx sk sy sf] w fun x w' => x = .returned (.agg #[.int .i64 10, .int .i64 0, .bool false, .string ⟨#[]⟩, .int .i64 0, .int .i64 0, .int .i64 0]) ∧ Below w.heap.size w w' := by
  obtain ⟨a, c, rfl⟩ := hp0.shape
  obtain ⟨a', c', rfl⟩ := hv0.shape
  obtain ⟨W, hW⟩ : ∃ W, W = ((w.alloc (.cells #[.int .i64 he, .int .i64 hp, .int .i64 ho, .int .i64 hn, .int .i64 hv] 43)).alloc (.cells #[.int .i64 e, .bool hl, .string l, .int .i64 v, .int .i64 o, .int .i64 p, .bool so, .bool st, .int .i64 sv, .slice a ps.length c, .bool sx, .int .i64 sk, .int .i64 sy, .slice a' f.length c'] 52)).alloc (.cells #[.int .i64 0, .int .i64 0, .bool false, .string ⟨#[]⟩, .int .i64 0, .int .i64 0, .int .i64 0] 41) := ⟨_, rfl⟩
  have HW : Hid (((w.alloc (.cells #[.int .i64 he, .int .i64 hp, .int .i64 ho, .int .i64 hn, .int .i64 hv] 43)).alloc (.cells #[.int .i64 e, .bool hl, .string l, .int .i64 v, .int .i64 o, .int .i64 p, .bool so, .bool st, .int .i64 sv, .slice a ps.length c, .bool sx, .int .i64 sk, .int .i64 sy, .slice a' f.length c'] 52)).alloc (.cells #[.int .i64 0, .int .i64 0, .bool false, .string ⟨#[]⟩, .int .i64 0, .int .i64 0, .int .i64 0] 41) = W) := hW.symm
  have hB : Below w.heap.size w W := by rw [hW]; exact three_new _ _ _
  have A0 : HdS W w.heap.size 0 ⟨he, hp, ho, hn, hv⟩ ∧ RpB W (w.heap.size + 1) e hl l v o p so st sv (.slice a ps.length c) sx sk sy (.slice a' f.length c') ∧ W.heap[w.heap.size + 2]? = some (.cells #[.int .i64 0, .int .i64 0, .bool false, .string ⟨#[]⟩, .int .i64 0, .int .i64 0, .int .i64 0] 41) := by rw [hW]; exact see_boxes w he hp ho hn hv e hl l v o p so st sv _ sx sk sy _
  have HK : Hid (∀ w', Below W.heap.size W w' → HdS w' w.heap.size 0 ⟨he, hp, ho, hn, hv⟩ ∧ RpB w' (w.heap.size + 1) e hl l v o p so st sv (.slice a ps.length c) sx sk sy (.slice a' f.length c') ∧ w'.heap[w.heap.size + 2]? = some (.cells #[.int .i64 0, .int .i64 0, .bool false, .string ⟨#[]⟩, .int .i64 0, .int .i64 0, .int .i64 0] 41)) := fun w' hb => see_below A0 hb
  have hF := l10Fault_any w.heap.size 0 he hp ho hn hv W A0.1
  have hRf := fun w' (hb : Below W.heap.size W w') => l13Fault_any (w.heap.size + 1) e hl l v o p so st sv a ps.length c sx sk sy a' f.length c' (tlZ sx sk sy f) w' (A0.2.1.below hb) (tlZ_how sx sk sy f) hs0
  have hRt := fun w' (hb : Below W.heap.size W w') => l13Root_any w.heap.size so he hp ho hn hv w' (see_below A0 hb).1
  have hTk := fun w' (hb : Below W.heap.size W w') => l13Taken_any (w.heap.size + 1) (keyI s) (rootV so ho hn) e hl l v o p so st sv _ sx sk sy _ ps f w' (A0.2.1.below hb) (hp0.below (below_after_of hB hb)) (hv0.below (below_after_of hB hb)) hpl
  have hL := fun w => l1Label_any s w hls
  rw [h0] at hF
  rw [h2] at hL
  rw [h3] at hRf
  clear h0 h2 h3
  rw [h4] at hRt
  have h6 : (e != he) = true := by simpa using h5
  clear hTk h4 h5
  generalize rootV so ho hn = rv at *
  generalize ps.length = pn at *
  generalize f.length = fn at *
  unfold hdV rpV
  clear hW hp0 hv0 A0
  go_enter Tryz.func8, Tryz.ntmps8
  go_wp2_with fail
  rw [HW.out]
  refine (hF).mono ?_
  rintro x w1 ⟨rfl, hb1⟩
  have hC1 := hb1
  clear hb1
  go_wp2_with fail
  refine (hL _).mono ?_
  rintro x w2 ⟨rfl, hb2⟩
  have hC2 := below_after_of hC1 hb2
  clear hb2
  go_wp2_with fail
  refine (hRf _ hC2).mono ?_
  rintro x w3 ⟨rfl, hb3⟩
  have hC3 := below_after_of hC2 hb3
  clear hb3
  obtain ⟨k0, k1, k2, k3, k4, k5, k6, k7, k8, k9, k10, k11, k12, k13⟩ := (HK.out _ hC3).2.1.cells
  go_wp2_with fail
  refine (hRt _ hC3).mono ?_
  rintro x w4 ⟨rfl, hb4⟩
  have hC4 := below_after_of hC3 hb4
  clear hb4
  clear k0 k1 k2 k3 k4 k5 k6 k7 k8 k9 k10 k11 k12 k13
  obtain ⟨k0, k1, k2, k3, k4, k5, k6, k7, k8, k9, k10, k11, k12, k13⟩ := (HK.out _ hC4).2.1.cells
  have d0 := (HK.out _ hC4).1.c0
  obtain ⟨c0, c1, c2, c3, c4, c5, c6, f0, f1, f2, f3, f4, f5, f6⟩ := seven_cells (HK.out _ hC4).2.2
  have hBB := below_after_of hB hC4
  clear hF hL hRf hRt HK hC1 hC2 hC3 hC4
  go_wp2
  exact bodyPost_ret (v := .agg #[.int .i64 10, .int .i64 0, .bool false, .string ⟨#[]⟩, .int .i64 0, .int .i64 0, .int .i64 0]) (by simp [results, Tryz.results8, go_sem, *]) rfl ⟨rfl, set7 hBB (by omega) _ _ _ _ _ _ _⟩
set_option maxRecDepth 100000 in
set_option maxHeartbeats 4000000 in
theorem see_pk (he hp ho hn hv : Int) (s : ByteArray) (l : ByteArray) (v o p : Int) (so st : Bool) (sv : Int) (sp : Value) (sx : Bool) (sk sy : Int) (sf : Value) (ps : List Int) (f : Prl) (w : World) (hp0 : Ints .i64 w sp ps) (hv0 : Prs w sf f) (hs0 : l.size ≤ 1048576) (hpl : ps.length ≤ 1048576) (hls : s.size ≤ 1048576) (h0 : hdC he hp ho hn hv = 0) (h2 : labelP s = 0) (h3 : rpC he true l v o p st sv (sdC so st sv ps.length (tlZ sx sk sy f)) = 0) (h4 : rootB so hp = true) (hl12 : l.size ≤ 12) (h7 : ¬ keyI l = keyI s) :
    Calls Tryz.prog 8 #[hdV he hp ho hn hv, .string s, rpV he true l v o p so st sv sp sx sk sy sf] w fun x w' => x = .returned (.agg #[.int .i64 9, .int .i64 0, .bool false, .string ⟨#[]⟩, .int .i64 0, .int .i64 0, .int .i64 0]) ∧ Below w.heap.size w w' := by
  obtain ⟨a, c, rfl⟩ := hp0.shape
  obtain ⟨a', c', rfl⟩ := hv0.shape
  obtain ⟨W, hW⟩ : ∃ W, W = ((w.alloc (.cells #[.int .i64 he, .int .i64 hp, .int .i64 ho, .int .i64 hn, .int .i64 hv] 43)).alloc (.cells #[.int .i64 he, .bool true, .string l, .int .i64 v, .int .i64 o, .int .i64 p, .bool so, .bool st, .int .i64 sv, .slice a ps.length c, .bool sx, .int .i64 sk, .int .i64 sy, .slice a' f.length c'] 52)).alloc (.cells #[.int .i64 0, .int .i64 0, .bool false, .string ⟨#[]⟩, .int .i64 0, .int .i64 0, .int .i64 0] 41) := ⟨_, rfl⟩
  have HW : Hid (((w.alloc (.cells #[.int .i64 he, .int .i64 hp, .int .i64 ho, .int .i64 hn, .int .i64 hv] 43)).alloc (.cells #[.int .i64 he, .bool true, .string l, .int .i64 v, .int .i64 o, .int .i64 p, .bool so, .bool st, .int .i64 sv, .slice a ps.length c, .bool sx, .int .i64 sk, .int .i64 sy, .slice a' f.length c'] 52)).alloc (.cells #[.int .i64 0, .int .i64 0, .bool false, .string ⟨#[]⟩, .int .i64 0, .int .i64 0, .int .i64 0] 41) = W) := hW.symm
  have hB : Below w.heap.size w W := by rw [hW]; exact three_new _ _ _
  have A0 : HdS W w.heap.size 0 ⟨he, hp, ho, hn, hv⟩ ∧ RpB W (w.heap.size + 1) he true l v o p so st sv (.slice a ps.length c) sx sk sy (.slice a' f.length c') ∧ W.heap[w.heap.size + 2]? = some (.cells #[.int .i64 0, .int .i64 0, .bool false, .string ⟨#[]⟩, .int .i64 0, .int .i64 0, .int .i64 0] 41) := by rw [hW]; exact see_boxes w he hp ho hn hv he true l v o p so st sv _ sx sk sy _
  have HK : Hid (∀ w', Below W.heap.size W w' → HdS w' w.heap.size 0 ⟨he, hp, ho, hn, hv⟩ ∧ RpB w' (w.heap.size + 1) he true l v o p so st sv (.slice a ps.length c) sx sk sy (.slice a' f.length c') ∧ w'.heap[w.heap.size + 2]? = some (.cells #[.int .i64 0, .int .i64 0, .bool false, .string ⟨#[]⟩, .int .i64 0, .int .i64 0, .int .i64 0] 41)) := fun w' hb => see_below A0 hb
  have hF := l10Fault_any w.heap.size 0 he hp ho hn hv W A0.1
  have hRf := fun w' (hb : Below W.heap.size W w') => l13Fault_any (w.heap.size + 1) he true l v o p so st sv a ps.length c sx sk sy a' f.length c' (tlZ sx sk sy f) w' (A0.2.1.below hb) (tlZ_how sx sk sy f) hs0
  have hRt := fun w' (hb : Below W.heap.size W w') => l13Root_any w.heap.size so he hp ho hn hv w' (see_below A0 hb).1
  have hTk := fun w' (hb : Below W.heap.size W w') => l13Taken_any (w.heap.size + 1) (keyI s) (rootV so ho hn) he true l v o p so st sv _ sx sk sy _ ps f w' (A0.2.1.below hb) (hp0.below (below_after_of hB hb)) (hv0.below (below_after_of hB hb)) hpl
  have hL := fun w => l1Label_any s w hls
  rw [h0] at hF
  rw [h2] at hL
  have h2k := h2
  rw [h3] at hRf
  clear h0 h2 h3
  rw [h4] at hRt
  have h6 : (he != he) = false := by simp
  have h12 : s.size ≤ 12 := labelP_small h2k
  have hK := fun w => l2Key_any s w h12
  have hKl := fun w => l2Key_any l w hl12
  clear hTk
  generalize rootV so ho hn = rv at *
  have h10 : (keyI l != keyI s) = true := by simpa using h7
  clear h7
  generalize keyI s = ky at *
  generalize keyI l = kl at *
  clear h4 h2k
  generalize ps.length = pn at *
  generalize f.length = fn at *
  unfold hdV rpV
  clear hW hp0 hv0 A0
  go_enter Tryz.func8, Tryz.ntmps8
  go_wp2_with fail
  rw [HW.out]
  refine (hF).mono ?_
  rintro x w1 ⟨rfl, hb1⟩
  have hC1 := hb1
  clear hb1
  go_wp2_with fail
  refine (hL _).mono ?_
  rintro x w2 ⟨rfl, hb2⟩
  have hC2 := below_after_of hC1 hb2
  clear hb2
  go_wp2_with fail
  refine (hRf _ hC2).mono ?_
  rintro x w3 ⟨rfl, hb3⟩
  have hC3 := below_after_of hC2 hb3
  clear hb3
  obtain ⟨k0, k1, k2, k3, k4, k5, k6, k7, k8, k9, k10, k11, k12, k13⟩ := (HK.out _ hC3).2.1.cells
  go_wp2_with fail
  refine (hRt _ hC3).mono ?_
  rintro x w4 ⟨rfl, hb4⟩
  have hC4 := below_after_of hC3 hb4
  clear hb4
  clear k0 k1 k2 k3 k4 k5 k6 k7 k8 k9 k10 k11 k12 k13
  obtain ⟨k0, k1, k2, k3, k4, k5, k6, k7, k8, k9, k10, k11, k12, k13⟩ := (HK.out _ hC4).2.1.cells
  have d0 := (HK.out _ hC4).1.c0
  go_wp2_with fail
  refine (hK _).mono ?_
  rintro x w5 ⟨rfl, hb5⟩
  have hC5 := below_after_of hC4 hb5
  clear hb5
  clear k0 k1 k2 k3 k4 k5 k6 k7 k8 k9 k10 k11 k12 k13 d0
  obtain ⟨k0, k1, k2, k3, k4, k5, k6, k7, k8, k9, k10, k11, k12, k13⟩ := (HK.out _ hC5).2.1.cells
  go_wp2_with fail
  refine (hKl _).mono ?_
  rintro x w6 ⟨rfl, hb6⟩
  have hC6 := below_after_of hC5 hb6
  clear hb6
  clear k0 k1 k2 k3 k4 k5 k6 k7 k8 k9 k10 k11 k12 k13
  obtain ⟨k0, k1, k2, k3, k4, k5, k6, k7, k8, k9, k10, k11, k12, k13⟩ := (HK.out _ hC6).2.1.cells
  obtain ⟨c0, c1, c2, c3, c4, c5, c6, f0, f1, f2, f3, f4, f5, f6⟩ := seven_cells (HK.out _ hC6).2.2
  have hBB := below_after_of hB hC6
  clear hF hL hRf hRt HK hK hC1 hC2 hC3 hC4 hC5 hC6 hKl k0 k1 k2 k3 k4 k5 k6 k7 k8 k9 k10 k11 k12 k13
  go_wp2
  exact bodyPost_ret (v := .agg #[.int .i64 9, .int .i64 0, .bool false, .string ⟨#[]⟩, .int .i64 0, .int .i64 0, .int .i64 0]) (by simp [results, Tryz.results8, go_sem, *]) rfl ⟨rfl, set7 hBB (by omega) _ _ _ _ _ _ _⟩
set_option maxRecDepth 100000 in
set_option maxHeartbeats 4000000 in
theorem see_pf (he hp ho hn hv : Int) (s : ByteArray) (l : ByteArray) (v o p : Int) (so st : Bool) (sv : Int) (sp : Value) (sx : Bool) (sk sy : Int) (sf : Value) (ps : List Int) (f : Prl) (w : World) (hp0 : Ints .i64 w sp ps) (hv0 : Prs w sf f) (hs0 : l.size ≤ 1048576) (hpl : ps.length ≤ 1048576) (hls : s.size ≤ 1048576) (h0 : hdC he hp ho hn hv = 0) (h2 : labelP s = 0) (h3 : rpC he false l v o p st sv (sdC so st sv ps.length (tlZ sx sk sy f)) = 0) (h4 : rootB so hp = true) (h8 : tkB so st (keyI s) sv ps sx sk sy f (rootV so ho hn) = false) :
    Calls Tryz.prog 8 #[hdV he hp ho hn hv, .string s, rpV he false l v o p so st sv sp sx sk sy sf] w fun x w' => x = .returned (.agg #[.int .i64 9, .int .i64 0, .bool false, .string ⟨#[]⟩, .int .i64 0, .int .i64 0, .int .i64 0]) ∧ Below w.heap.size w w' := by
  obtain ⟨a, c, rfl⟩ := hp0.shape
  obtain ⟨a', c', rfl⟩ := hv0.shape
  obtain ⟨W, hW⟩ : ∃ W, W = ((w.alloc (.cells #[.int .i64 he, .int .i64 hp, .int .i64 ho, .int .i64 hn, .int .i64 hv] 43)).alloc (.cells #[.int .i64 he, .bool false, .string l, .int .i64 v, .int .i64 o, .int .i64 p, .bool so, .bool st, .int .i64 sv, .slice a ps.length c, .bool sx, .int .i64 sk, .int .i64 sy, .slice a' f.length c'] 52)).alloc (.cells #[.int .i64 0, .int .i64 0, .bool false, .string ⟨#[]⟩, .int .i64 0, .int .i64 0, .int .i64 0] 41) := ⟨_, rfl⟩
  have HW : Hid (((w.alloc (.cells #[.int .i64 he, .int .i64 hp, .int .i64 ho, .int .i64 hn, .int .i64 hv] 43)).alloc (.cells #[.int .i64 he, .bool false, .string l, .int .i64 v, .int .i64 o, .int .i64 p, .bool so, .bool st, .int .i64 sv, .slice a ps.length c, .bool sx, .int .i64 sk, .int .i64 sy, .slice a' f.length c'] 52)).alloc (.cells #[.int .i64 0, .int .i64 0, .bool false, .string ⟨#[]⟩, .int .i64 0, .int .i64 0, .int .i64 0] 41) = W) := hW.symm
  have hB : Below w.heap.size w W := by rw [hW]; exact three_new _ _ _
  have A0 : HdS W w.heap.size 0 ⟨he, hp, ho, hn, hv⟩ ∧ RpB W (w.heap.size + 1) he false l v o p so st sv (.slice a ps.length c) sx sk sy (.slice a' f.length c') ∧ W.heap[w.heap.size + 2]? = some (.cells #[.int .i64 0, .int .i64 0, .bool false, .string ⟨#[]⟩, .int .i64 0, .int .i64 0, .int .i64 0] 41) := by rw [hW]; exact see_boxes w he hp ho hn hv he false l v o p so st sv _ sx sk sy _
  have HK : Hid (∀ w', Below W.heap.size W w' → HdS w' w.heap.size 0 ⟨he, hp, ho, hn, hv⟩ ∧ RpB w' (w.heap.size + 1) he false l v o p so st sv (.slice a ps.length c) sx sk sy (.slice a' f.length c') ∧ w'.heap[w.heap.size + 2]? = some (.cells #[.int .i64 0, .int .i64 0, .bool false, .string ⟨#[]⟩, .int .i64 0, .int .i64 0, .int .i64 0] 41)) := fun w' hb => see_below A0 hb
  have hF := l10Fault_any w.heap.size 0 he hp ho hn hv W A0.1
  have hRf := fun w' (hb : Below W.heap.size W w') => l13Fault_any (w.heap.size + 1) he false l v o p so st sv a ps.length c sx sk sy a' f.length c' (tlZ sx sk sy f) w' (A0.2.1.below hb) (tlZ_how sx sk sy f) hs0
  have hRt := fun w' (hb : Below W.heap.size W w') => l13Root_any w.heap.size so he hp ho hn hv w' (see_below A0 hb).1
  have hTk := fun w' (hb : Below W.heap.size W w') => l13Taken_any (w.heap.size + 1) (keyI s) (rootV so ho hn) he false l v o p so st sv _ sx sk sy _ ps f w' (A0.2.1.below hb) (hp0.below (below_after_of hB hb)) (hv0.below (below_after_of hB hb)) hpl
  have hL := fun w => l1Label_any s w hls
  rw [h0] at hF
  rw [h2] at hL
  have h2k := h2
  rw [h3] at hRf
  clear h0 h2 h3
  rw [h4] at hRt
  have h6 : (he != he) = false := by simp
  have h12 : s.size ≤ 12 := labelP_small h2k
  have hK := fun w => l2Key_any s w h12
  rw [h8] at hTk
  generalize rootV so ho hn = rv at *
  generalize keyI s = ky at *
  clear h4 h8 h2k
  generalize ps.length = pn at *
  generalize f.length = fn at *
  unfold hdV rpV
  clear hW hp0 hv0 A0
  go_enter Tryz.func8, Tryz.ntmps8
  go_wp2_with fail
  rw [HW.out]
  refine (hF).mono ?_
  rintro x w1 ⟨rfl, hb1⟩
  have hC1 := hb1
  clear hb1
  go_wp2_with fail
  refine (hL _).mono ?_
  rintro x w2 ⟨rfl, hb2⟩
  have hC2 := below_after_of hC1 hb2
  clear hb2
  go_wp2_with fail
  refine (hRf _ hC2).mono ?_
  rintro x w3 ⟨rfl, hb3⟩
  have hC3 := below_after_of hC2 hb3
  clear hb3
  obtain ⟨k0, k1, k2, k3, k4, k5, k6, k7, k8, k9, k10, k11, k12, k13⟩ := (HK.out _ hC3).2.1.cells
  go_wp2_with fail
  refine (hRt _ hC3).mono ?_
  rintro x w4 ⟨rfl, hb4⟩
  have hC4 := below_after_of hC3 hb4
  clear hb4
  clear k0 k1 k2 k3 k4 k5 k6 k7 k8 k9 k10 k11 k12 k13
  obtain ⟨k0, k1, k2, k3, k4, k5, k6, k7, k8, k9, k10, k11, k12, k13⟩ := (HK.out _ hC4).2.1.cells
  have d0 := (HK.out _ hC4).1.c0
  go_wp2_with fail
  refine (hK _).mono ?_
  rintro x w5 ⟨rfl, hb5⟩
  have hC5 := below_after_of hC4 hb5
  clear hb5
  clear k0 k1 k2 k3 k4 k5 k6 k7 k8 k9 k10 k11 k12 k13 d0
  obtain ⟨k0, k1, k2, k3, k4, k5, k6, k7, k8, k9, k10, k11, k12, k13⟩ := (HK.out _ hC5).2.1.cells
  go_wp2_with fail
  refine (hTk _ hC5).mono ?_
  rintro x w6 ⟨rfl, hb6⟩
  have hC6 := below_after_of hC5 hb6
  clear hb6
  clear k0 k1 k2 k3 k4 k5 k6 k7 k8 k9 k10 k11 k12 k13
  obtain ⟨k0, k1, k2, k3, k4, k5, k6, k7, k8, k9, k10, k11, k12, k13⟩ := (HK.out _ hC6).2.1.cells
  obtain ⟨c0, c1, c2, c3, c4, c5, c6, f0, f1, f2, f3, f4, f5, f6⟩ := seven_cells (HK.out _ hC6).2.2
  have hBB := below_after_of hB hC6
  clear hF hL hRf hRt HK hK hC1 hC2 hC3 hC4 hC5 hC6 hTk k0 k1 k2 k3 k4 k5 k6 k7 k8 k9 k10 k11 k12 k13
  go_wp2
  exact bodyPost_ret (v := .agg #[.int .i64 9, .int .i64 0, .bool false, .string ⟨#[]⟩, .int .i64 0, .int .i64 0, .int .i64 0]) (by simp [results, Tryz.results8, go_sem, *]) rfl ⟨rfl, set7 hBB (by omega) _ _ _ _ _ _ _⟩
set_option maxRecDepth 100000 in
set_option maxHeartbeats 4000000 in
theorem see_pt (he hp ho hn hv : Int) (s : ByteArray) (l : ByteArray) (v o p : Int) (so st : Bool) (sv : Int) (sp : Value) (sx : Bool) (sk sy : Int) (sf : Value) (ps : List Int) (f : Prl) (w : World) (hp0 : Ints .i64 w sp ps) (hv0 : Prs w sf f) (hs0 : l.size ≤ 1048576) (hpl : ps.length ≤ 1048576) (hls : s.size ≤ 1048576) (h0 : hdC he hp ho hn hv = 0) (h2 : labelP s = 0) (h3 : rpC he true l v o p st sv (sdC so st sv ps.length (tlZ sx sk sy f)) = 0) (h4 : rootB so hp = true) (hl12 : l.size ≤ 12) (h7 : keyI l = keyI s) (h8 : tkB so st (keyI s) sv ps sx sk sy f (rootV so ho hn) = false) :
    Calls Tryz.prog 8 #[hdV he hp ho hn hv, .string s, rpV he true l v o p so st sv sp sx sk sy sf] w fun x w' => x = .returned (.agg #[.int .i64 9, .int .i64 0, .bool false, .string ⟨#[]⟩, .int .i64 0, .int .i64 0, .int .i64 0]) ∧ Below w.heap.size w w' := by
  obtain ⟨a, c, rfl⟩ := hp0.shape
  obtain ⟨a', c', rfl⟩ := hv0.shape
  obtain ⟨W, hW⟩ : ∃ W, W = ((w.alloc (.cells #[.int .i64 he, .int .i64 hp, .int .i64 ho, .int .i64 hn, .int .i64 hv] 43)).alloc (.cells #[.int .i64 he, .bool true, .string l, .int .i64 v, .int .i64 o, .int .i64 p, .bool so, .bool st, .int .i64 sv, .slice a ps.length c, .bool sx, .int .i64 sk, .int .i64 sy, .slice a' f.length c'] 52)).alloc (.cells #[.int .i64 0, .int .i64 0, .bool false, .string ⟨#[]⟩, .int .i64 0, .int .i64 0, .int .i64 0] 41) := ⟨_, rfl⟩
  have HW : Hid (((w.alloc (.cells #[.int .i64 he, .int .i64 hp, .int .i64 ho, .int .i64 hn, .int .i64 hv] 43)).alloc (.cells #[.int .i64 he, .bool true, .string l, .int .i64 v, .int .i64 o, .int .i64 p, .bool so, .bool st, .int .i64 sv, .slice a ps.length c, .bool sx, .int .i64 sk, .int .i64 sy, .slice a' f.length c'] 52)).alloc (.cells #[.int .i64 0, .int .i64 0, .bool false, .string ⟨#[]⟩, .int .i64 0, .int .i64 0, .int .i64 0] 41) = W) := hW.symm
  have hB : Below w.heap.size w W := by rw [hW]; exact three_new _ _ _
  have A0 : HdS W w.heap.size 0 ⟨he, hp, ho, hn, hv⟩ ∧ RpB W (w.heap.size + 1) he true l v o p so st sv (.slice a ps.length c) sx sk sy (.slice a' f.length c') ∧ W.heap[w.heap.size + 2]? = some (.cells #[.int .i64 0, .int .i64 0, .bool false, .string ⟨#[]⟩, .int .i64 0, .int .i64 0, .int .i64 0] 41) := by rw [hW]; exact see_boxes w he hp ho hn hv he true l v o p so st sv _ sx sk sy _
  have HK : Hid (∀ w', Below W.heap.size W w' → HdS w' w.heap.size 0 ⟨he, hp, ho, hn, hv⟩ ∧ RpB w' (w.heap.size + 1) he true l v o p so st sv (.slice a ps.length c) sx sk sy (.slice a' f.length c') ∧ w'.heap[w.heap.size + 2]? = some (.cells #[.int .i64 0, .int .i64 0, .bool false, .string ⟨#[]⟩, .int .i64 0, .int .i64 0, .int .i64 0] 41)) := fun w' hb => see_below A0 hb
  have hF := l10Fault_any w.heap.size 0 he hp ho hn hv W A0.1
  have hRf := fun w' (hb : Below W.heap.size W w') => l13Fault_any (w.heap.size + 1) he true l v o p so st sv a ps.length c sx sk sy a' f.length c' (tlZ sx sk sy f) w' (A0.2.1.below hb) (tlZ_how sx sk sy f) hs0
  have hRt := fun w' (hb : Below W.heap.size W w') => l13Root_any w.heap.size so he hp ho hn hv w' (see_below A0 hb).1
  have hTk := fun w' (hb : Below W.heap.size W w') => l13Taken_any (w.heap.size + 1) (keyI s) (rootV so ho hn) he true l v o p so st sv _ sx sk sy _ ps f w' (A0.2.1.below hb) (hp0.below (below_after_of hB hb)) (hv0.below (below_after_of hB hb)) hpl
  have hL := fun w => l1Label_any s w hls
  rw [h0] at hF
  rw [h2] at hL
  have h2k := h2
  rw [h3] at hRf
  clear h0 h2 h3
  rw [h4] at hRt
  have h6 : (he != he) = false := by simp
  have h12 : s.size ≤ 12 := labelP_small h2k
  have hK := fun w => l2Key_any s w h12
  have hKl := fun w => l2Key_any l w hl12
  rw [h8] at hTk
  generalize rootV so ho hn = rv at *
  rw [h7] at hKl
  generalize keyI s = ky at *
  have h10 : (ky != ky) = false := by simp
  clear h4 h8 h2k
  generalize ps.length = pn at *
  generalize f.length = fn at *
  unfold hdV rpV
  clear hW hp0 hv0 A0
  go_enter Tryz.func8, Tryz.ntmps8
  go_wp2_with fail
  rw [HW.out]
  refine (hF).mono ?_
  rintro x w1 ⟨rfl, hb1⟩
  have hC1 := hb1
  clear hb1
  go_wp2_with fail
  refine (hL _).mono ?_
  rintro x w2 ⟨rfl, hb2⟩
  have hC2 := below_after_of hC1 hb2
  clear hb2
  go_wp2_with fail
  refine (hRf _ hC2).mono ?_
  rintro x w3 ⟨rfl, hb3⟩
  have hC3 := below_after_of hC2 hb3
  clear hb3
  obtain ⟨k0, k1, k2, k3, k4, k5, k6, k7, k8, k9, k10, k11, k12, k13⟩ := (HK.out _ hC3).2.1.cells
  go_wp2_with fail
  refine (hRt _ hC3).mono ?_
  rintro x w4 ⟨rfl, hb4⟩
  have hC4 := below_after_of hC3 hb4
  clear hb4
  clear k0 k1 k2 k3 k4 k5 k6 k7 k8 k9 k10 k11 k12 k13
  obtain ⟨k0, k1, k2, k3, k4, k5, k6, k7, k8, k9, k10, k11, k12, k13⟩ := (HK.out _ hC4).2.1.cells
  have d0 := (HK.out _ hC4).1.c0
  go_wp2_with fail
  refine (hK _).mono ?_
  rintro x w5 ⟨rfl, hb5⟩
  have hC5 := below_after_of hC4 hb5
  clear hb5
  clear k0 k1 k2 k3 k4 k5 k6 k7 k8 k9 k10 k11 k12 k13 d0
  obtain ⟨k0, k1, k2, k3, k4, k5, k6, k7, k8, k9, k10, k11, k12, k13⟩ := (HK.out _ hC5).2.1.cells
  go_wp2_with fail
  refine (hKl _).mono ?_
  rintro x w6 ⟨rfl, hb6⟩
  have hC6 := below_after_of hC5 hb6
  clear hb6
  clear k0 k1 k2 k3 k4 k5 k6 k7 k8 k9 k10 k11 k12 k13
  obtain ⟨k0, k1, k2, k3, k4, k5, k6, k7, k8, k9, k10, k11, k12, k13⟩ := (HK.out _ hC6).2.1.cells
  go_wp2_with fail
  refine (hTk _ hC6).mono ?_
  rintro x w7 ⟨rfl, hb7⟩
  have hC7 := below_after_of hC6 hb7
  clear hb7
  clear k0 k1 k2 k3 k4 k5 k6 k7 k8 k9 k10 k11 k12 k13
  obtain ⟨k0, k1, k2, k3, k4, k5, k6, k7, k8, k9, k10, k11, k12, k13⟩ := (HK.out _ hC7).2.1.cells
  obtain ⟨c0, c1, c2, c3, c4, c5, c6, f0, f1, f2, f3, f4, f5, f6⟩ := seven_cells (HK.out _ hC7).2.2
  have hBB := below_after_of hB hC7
  clear hF hL hRf hRt HK hK hC1 hC2 hC3 hC4 hC5 hC6 hC7 hKl hTk k0 k1 k2 k3 k4 k5 k6 k7 k8 k9 k10 k11 k12 k13
  go_wp2
  exact bodyPost_ret (v := .agg #[.int .i64 9, .int .i64 0, .bool false, .string ⟨#[]⟩, .int .i64 0, .int .i64 0, .int .i64 0]) (by simp [results, Tryz.results8, go_sem, *]) rfl ⟨rfl, set7 hBB (by omega) _ _ _ _ _ _ _⟩
set_option maxRecDepth 100000 in
set_option maxHeartbeats 4000000 in
theorem see_of (he hp ho hn hv : Int) (s : ByteArray) (l : ByteArray) (v o p : Int) (so st : Bool) (sv : Int) (sp : Value) (sx : Bool) (sk sy : Int) (sf : Value) (ps : List Int) (f : Prl) (w : World) (hp0 : Ints .i64 w sp ps) (hv0 : Prs w sf f) (hs0 : l.size ≤ 1048576) (hpl : ps.length ≤ 1048576) (hls : s.size ≤ 1048576) (h0 : hdC he hp ho hn hv = 0) (h2 : labelP s = 0) (h3 : rpC he false l v o p st sv (sdC so st sv ps.length (tlZ sx sk sy f)) = 0) (h4 : rootB so hp = true) (h8 : tkB so st (keyI s) sv ps sx sk sy f (rootV so ho hn) = true) :
    Calls Tryz.prog 8 #[hdV he hp ho hn hv, .string s, rpV he false l v o p so st sv sp sx sk sy sf] w fun x w' => x = .returned (.agg #[.int .i64 0, .int .i64 (keyI s), .bool false, .string ⟨#[]⟩, .int .i64 0, .int .i64 0, .int .i64 0]) ∧ Below w.heap.size w w' := by
  obtain ⟨a, c, rfl⟩ := hp0.shape
  obtain ⟨a', c', rfl⟩ := hv0.shape
  obtain ⟨W, hW⟩ : ∃ W, W = ((w.alloc (.cells #[.int .i64 he, .int .i64 hp, .int .i64 ho, .int .i64 hn, .int .i64 hv] 43)).alloc (.cells #[.int .i64 he, .bool false, .string l, .int .i64 v, .int .i64 o, .int .i64 p, .bool so, .bool st, .int .i64 sv, .slice a ps.length c, .bool sx, .int .i64 sk, .int .i64 sy, .slice a' f.length c'] 52)).alloc (.cells #[.int .i64 0, .int .i64 0, .bool false, .string ⟨#[]⟩, .int .i64 0, .int .i64 0, .int .i64 0] 41) := ⟨_, rfl⟩
  have HW : Hid (((w.alloc (.cells #[.int .i64 he, .int .i64 hp, .int .i64 ho, .int .i64 hn, .int .i64 hv] 43)).alloc (.cells #[.int .i64 he, .bool false, .string l, .int .i64 v, .int .i64 o, .int .i64 p, .bool so, .bool st, .int .i64 sv, .slice a ps.length c, .bool sx, .int .i64 sk, .int .i64 sy, .slice a' f.length c'] 52)).alloc (.cells #[.int .i64 0, .int .i64 0, .bool false, .string ⟨#[]⟩, .int .i64 0, .int .i64 0, .int .i64 0] 41) = W) := hW.symm
  have hB : Below w.heap.size w W := by rw [hW]; exact three_new _ _ _
  have A0 : HdS W w.heap.size 0 ⟨he, hp, ho, hn, hv⟩ ∧ RpB W (w.heap.size + 1) he false l v o p so st sv (.slice a ps.length c) sx sk sy (.slice a' f.length c') ∧ W.heap[w.heap.size + 2]? = some (.cells #[.int .i64 0, .int .i64 0, .bool false, .string ⟨#[]⟩, .int .i64 0, .int .i64 0, .int .i64 0] 41) := by rw [hW]; exact see_boxes w he hp ho hn hv he false l v o p so st sv _ sx sk sy _
  have HK : Hid (∀ w', Below W.heap.size W w' → HdS w' w.heap.size 0 ⟨he, hp, ho, hn, hv⟩ ∧ RpB w' (w.heap.size + 1) he false l v o p so st sv (.slice a ps.length c) sx sk sy (.slice a' f.length c') ∧ w'.heap[w.heap.size + 2]? = some (.cells #[.int .i64 0, .int .i64 0, .bool false, .string ⟨#[]⟩, .int .i64 0, .int .i64 0, .int .i64 0] 41)) := fun w' hb => see_below A0 hb
  have hF := l10Fault_any w.heap.size 0 he hp ho hn hv W A0.1
  have hRf := fun w' (hb : Below W.heap.size W w') => l13Fault_any (w.heap.size + 1) he false l v o p so st sv a ps.length c sx sk sy a' f.length c' (tlZ sx sk sy f) w' (A0.2.1.below hb) (tlZ_how sx sk sy f) hs0
  have hRt := fun w' (hb : Below W.heap.size W w') => l13Root_any w.heap.size so he hp ho hn hv w' (see_below A0 hb).1
  have hTk := fun w' (hb : Below W.heap.size W w') => l13Taken_any (w.heap.size + 1) (keyI s) (rootV so ho hn) he false l v o p so st sv _ sx sk sy _ ps f w' (A0.2.1.below hb) (hp0.below (below_after_of hB hb)) (hv0.below (below_after_of hB hb)) hpl
  have hL := fun w => l1Label_any s w hls
  rw [h0] at hF
  rw [h2] at hL
  have h2k := h2
  rw [h3] at hRf
  clear h0 h2 h3
  rw [h4] at hRt
  have h6 : (he != he) = false := by simp
  have h12 : s.size ≤ 12 := labelP_small h2k
  have hK := fun w => l2Key_any s w h12
  rw [h8] at hTk
  generalize rootV so ho hn = rv at *
  generalize keyI s = ky at *
  clear h4 h8 h2k
  generalize ps.length = pn at *
  generalize f.length = fn at *
  unfold hdV rpV
  clear hW hp0 hv0 A0
  go_enter Tryz.func8, Tryz.ntmps8
  go_wp2_with fail
  rw [HW.out]
  refine (hF).mono ?_
  rintro x w1 ⟨rfl, hb1⟩
  have hC1 := hb1
  clear hb1
  go_wp2_with fail
  refine (hL _).mono ?_
  rintro x w2 ⟨rfl, hb2⟩
  have hC2 := below_after_of hC1 hb2
  clear hb2
  go_wp2_with fail
  refine (hRf _ hC2).mono ?_
  rintro x w3 ⟨rfl, hb3⟩
  have hC3 := below_after_of hC2 hb3
  clear hb3
  obtain ⟨k0, k1, k2, k3, k4, k5, k6, k7, k8, k9, k10, k11, k12, k13⟩ := (HK.out _ hC3).2.1.cells
  go_wp2_with fail
  refine (hRt _ hC3).mono ?_
  rintro x w4 ⟨rfl, hb4⟩
  have hC4 := below_after_of hC3 hb4
  clear hb4
  clear k0 k1 k2 k3 k4 k5 k6 k7 k8 k9 k10 k11 k12 k13
  obtain ⟨k0, k1, k2, k3, k4, k5, k6, k7, k8, k9, k10, k11, k12, k13⟩ := (HK.out _ hC4).2.1.cells
  have d0 := (HK.out _ hC4).1.c0
  go_wp2_with fail
  refine (hK _).mono ?_
  rintro x w5 ⟨rfl, hb5⟩
  have hC5 := below_after_of hC4 hb5
  clear hb5
  clear k0 k1 k2 k3 k4 k5 k6 k7 k8 k9 k10 k11 k12 k13 d0
  obtain ⟨k0, k1, k2, k3, k4, k5, k6, k7, k8, k9, k10, k11, k12, k13⟩ := (HK.out _ hC5).2.1.cells
  go_wp2_with fail
  refine (hTk _ hC5).mono ?_
  rintro x w6 ⟨rfl, hb6⟩
  have hC6 := below_after_of hC5 hb6
  clear hb6
  clear k0 k1 k2 k3 k4 k5 k6 k7 k8 k9 k10 k11 k12 k13
  obtain ⟨k0, k1, k2, k3, k4, k5, k6, k7, k8, k9, k10, k11, k12, k13⟩ := (HK.out _ hC6).2.1.cells
  go_wp2_with fail
  obtain ⟨W9, hW9⟩ : ∃ W9, W9 = w6.alloc (.cells #[.int .i64 ky, .bool false, .string ⟨#[]⟩, .int .i64 0, .int .i64 0, .int .i64 0] 39) := ⟨_, rfl⟩
  have HW9 : Hid (w6.alloc (.cells #[.int .i64 ky, .bool false, .string ⟨#[]⟩, .int .i64 0, .int .i64 0, .int .i64 0] 39) = W9) := hW9.symm
  have hC8 : Below W.heap.size W W9 := by rw [hW9]; exact hC6.alloc hC6.size _
  have O8 : W9.heap[w6.heap.size]? = some (.cells #[.int .i64 ky, .bool false, .string ⟨#[]⟩, .int .i64 0, .int .i64 0, .int .i64 0] 39) := by rw [hW9]; exact heap_alloc_new _ _
  have hg8 : w.heap.size + 2 < w6.heap.size := (Array.getElem?_eq_some_iff.1 (HK.out _ hC6).2.2).1
  rw [HW9.out]
  clear k0 k1 k2 k3 k4 k5 k6 k7 k8 k9 k10 k11 k12 k13 hW9
  obtain ⟨k0, k1, k2, k3, k4, k5, k6, k7, k8, k9, k10, k11, k12, k13⟩ := (HK.out _ hC8).2.1.cells
  have q1 := After.cell k1
  have q2 := After.cell k2
  have hne := After.ne W9
  refine wp_region_after (by kernel_rfl) (by kernel_rfl) ?_
  repeat (first | go_big_quiet_skip | (go_big_quiet_want; go_big_quiet_op; first | go_big_quiet_on | go_big_quiet_call (first | fail)))
  refine wpQuiet_nil ?_
  rintro _ ⟨n9, rfl⟩
  have hb9 := n9.b
  have hC9 := below_after_of hC8 hb9
  have O9 := (hb9.block _ (Array.getElem?_eq_some_iff.1 O8).1).trans O8
  generalize n9.w = w9 at *
  clear k0 k1 k2 k3 k4 k5 k6 k7 k8 k9 k10 k11 k12 k13 q1 q2 hne n9 O8 hb9 hC8
  obtain ⟨k0, k1, k2, k3, k4, k5, k6, k7, k8, k9, k10, k11, k12, k13⟩ := (HK.out _ hC9).2.1.cells
  obtain ⟨g0, g1, g2, g3, g4, g5, e0, e1, e2, e3, e4, e5⟩ := six_cellsA O9
  obtain ⟨c0, c1, c2, c3, c4, c5, c6, f0, f1, f2, f3, f4, f5, f6⟩ := seven_cells (HK.out _ hC9).2.2
  have hBB := below_after_of hB hC9
  have hgl := hB.size
  have hgn : ¬ (w6.heap.size = w.heap.size + 2) := by omega
  have hgn' : ¬ (w.heap.size + 2 = w6.heap.size) := by omega
  have hgm : ¬ (w6.heap.size = w.heap.size + 1) := by omega
  have hgm' : ¬ (w.heap.size + 1 = w6.heap.size) := by omega
  have hgw : w.heap.size ≤ w6.heap.size := by omega
  clear hF hL hRf hRt HK hK hC1 hC2 hC3 hC4 hC5 hC6 hTk hC9 O9
  go_wp2
  refine bodyPost_ret (v := .agg #[.int .i64 0, .int .i64 ky, .bool false, .string ⟨#[]⟩, .int .i64 0, .int .i64 0, .int .i64 0]) (by simp [results, Tryz.results8, go_sem, *]) rfl ⟨rfl, set7 hBB (by omega) _ _ _ _ _ _ _⟩
set_option maxRecDepth 100000 in
set_option maxHeartbeats 4000000 in
theorem see_on (he hp ho hn hv : Int) (s : ByteArray) (l : ByteArray) (v o p : Int) (so st : Bool) (sv : Int) (sp : Value) (sx : Bool) (sk sy : Int) (sf : Value) (ps : List Int) (f : Prl) (w : World) (hp0 : Ints .i64 w sp ps) (hv0 : Prs w sf f) (hs0 : l.size ≤ 1048576) (hpl : ps.length ≤ 1048576) (hls : s.size ≤ 1048576) (h0 : hdC he hp ho hn hv = 0) (h2 : labelP s = 0) (h3 : rpC he true l v o p st sv (sdC so st sv ps.length (tlZ sx sk sy f)) = 0) (h4 : rootB so hp = true) (hl12 : l.size ≤ 12) (h7 : keyI l = keyI s) (h8 : tkB so st (keyI s) sv ps sx sk sy f (rootV so ho hn) = true) (h9 : (l.toList == (foldS s).toList) = false) :
    Calls Tryz.prog 8 #[hdV he hp ho hn hv, .string s, rpV he true l v o p so st sv sp sx sk sy sf] w fun x w' => x = .returned (.agg #[.int .i64 0, .int .i64 (keyI s), .bool false, .string ⟨#[]⟩, .int .i64 0, .int .i64 0, .int .i64 0]) ∧ Below w.heap.size w w' := by
  obtain ⟨a, c, rfl⟩ := hp0.shape
  obtain ⟨a', c', rfl⟩ := hv0.shape
  obtain ⟨W, hW⟩ : ∃ W, W = ((w.alloc (.cells #[.int .i64 he, .int .i64 hp, .int .i64 ho, .int .i64 hn, .int .i64 hv] 43)).alloc (.cells #[.int .i64 he, .bool true, .string l, .int .i64 v, .int .i64 o, .int .i64 p, .bool so, .bool st, .int .i64 sv, .slice a ps.length c, .bool sx, .int .i64 sk, .int .i64 sy, .slice a' f.length c'] 52)).alloc (.cells #[.int .i64 0, .int .i64 0, .bool false, .string ⟨#[]⟩, .int .i64 0, .int .i64 0, .int .i64 0] 41) := ⟨_, rfl⟩
  have HW : Hid (((w.alloc (.cells #[.int .i64 he, .int .i64 hp, .int .i64 ho, .int .i64 hn, .int .i64 hv] 43)).alloc (.cells #[.int .i64 he, .bool true, .string l, .int .i64 v, .int .i64 o, .int .i64 p, .bool so, .bool st, .int .i64 sv, .slice a ps.length c, .bool sx, .int .i64 sk, .int .i64 sy, .slice a' f.length c'] 52)).alloc (.cells #[.int .i64 0, .int .i64 0, .bool false, .string ⟨#[]⟩, .int .i64 0, .int .i64 0, .int .i64 0] 41) = W) := hW.symm
  have hB : Below w.heap.size w W := by rw [hW]; exact three_new _ _ _
  have A0 : HdS W w.heap.size 0 ⟨he, hp, ho, hn, hv⟩ ∧ RpB W (w.heap.size + 1) he true l v o p so st sv (.slice a ps.length c) sx sk sy (.slice a' f.length c') ∧ W.heap[w.heap.size + 2]? = some (.cells #[.int .i64 0, .int .i64 0, .bool false, .string ⟨#[]⟩, .int .i64 0, .int .i64 0, .int .i64 0] 41) := by rw [hW]; exact see_boxes w he hp ho hn hv he true l v o p so st sv _ sx sk sy _
  have HK : Hid (∀ w', Below W.heap.size W w' → HdS w' w.heap.size 0 ⟨he, hp, ho, hn, hv⟩ ∧ RpB w' (w.heap.size + 1) he true l v o p so st sv (.slice a ps.length c) sx sk sy (.slice a' f.length c') ∧ w'.heap[w.heap.size + 2]? = some (.cells #[.int .i64 0, .int .i64 0, .bool false, .string ⟨#[]⟩, .int .i64 0, .int .i64 0, .int .i64 0] 41)) := fun w' hb => see_below A0 hb
  have hF := l10Fault_any w.heap.size 0 he hp ho hn hv W A0.1
  have hRf := fun w' (hb : Below W.heap.size W w') => l13Fault_any (w.heap.size + 1) he true l v o p so st sv a ps.length c sx sk sy a' f.length c' (tlZ sx sk sy f) w' (A0.2.1.below hb) (tlZ_how sx sk sy f) hs0
  have hRt := fun w' (hb : Below W.heap.size W w') => l13Root_any w.heap.size so he hp ho hn hv w' (see_below A0 hb).1
  have hTk := fun w' (hb : Below W.heap.size W w') => l13Taken_any (w.heap.size + 1) (keyI s) (rootV so ho hn) he true l v o p so st sv _ sx sk sy _ ps f w' (A0.2.1.below hb) (hp0.below (below_after_of hB hb)) (hv0.below (below_after_of hB hb)) hpl
  have hL := fun w => l1Label_any s w hls
  rw [h0] at hF
  rw [h2] at hL
  have h2k := h2
  rw [h3] at hRf
  clear h0 h2 h3
  rw [h4] at hRt
  have h6 : (he != he) = false := by simp
  have h12 : s.size ≤ 12 := labelP_small h2k
  have hK := fun w => l2Key_any s w h12
  have hKl := fun w => l2Key_any l w hl12
  have hFo := fun w => l1Fold_any s w h12
  generalize foldS s = fs at *
  rw [h8] at hTk
  generalize rootV so ho hn = rv at *
  rw [h7] at hKl
  generalize keyI s = ky at *
  have h10 : (ky != ky) = false := by simp
  clear h4 h8 h2k
  generalize ps.length = pn at *
  generalize f.length = fn at *
  unfold hdV rpV
  clear hW hp0 hv0 A0
  go_enter Tryz.func8, Tryz.ntmps8
  go_wp2_with fail
  rw [HW.out]
  refine (hF).mono ?_
  rintro x w1 ⟨rfl, hb1⟩
  have hC1 := hb1
  clear hb1
  go_wp2_with fail
  refine (hL _).mono ?_
  rintro x w2 ⟨rfl, hb2⟩
  have hC2 := below_after_of hC1 hb2
  clear hb2
  go_wp2_with fail
  refine (hRf _ hC2).mono ?_
  rintro x w3 ⟨rfl, hb3⟩
  have hC3 := below_after_of hC2 hb3
  clear hb3
  obtain ⟨k0, k1, k2, k3, k4, k5, k6, k7, k8, k9, k10, k11, k12, k13⟩ := (HK.out _ hC3).2.1.cells
  go_wp2_with fail
  refine (hRt _ hC3).mono ?_
  rintro x w4 ⟨rfl, hb4⟩
  have hC4 := below_after_of hC3 hb4
  clear hb4
  clear k0 k1 k2 k3 k4 k5 k6 k7 k8 k9 k10 k11 k12 k13
  obtain ⟨k0, k1, k2, k3, k4, k5, k6, k7, k8, k9, k10, k11, k12, k13⟩ := (HK.out _ hC4).2.1.cells
  have d0 := (HK.out _ hC4).1.c0
  go_wp2_with fail
  refine (hK _).mono ?_
  rintro x w5 ⟨rfl, hb5⟩
  have hC5 := below_after_of hC4 hb5
  clear hb5
  clear k0 k1 k2 k3 k4 k5 k6 k7 k8 k9 k10 k11 k12 k13 d0
  obtain ⟨k0, k1, k2, k3, k4, k5, k6, k7, k8, k9, k10, k11, k12, k13⟩ := (HK.out _ hC5).2.1.cells
  go_wp2_with fail
  refine (hKl _).mono ?_
  rintro x w6 ⟨rfl, hb6⟩
  have hC6 := below_after_of hC5 hb6
  clear hb6
  clear k0 k1 k2 k3 k4 k5 k6 k7 k8 k9 k10 k11 k12 k13
  obtain ⟨k0, k1, k2, k3, k4, k5, k6, k7, k8, k9, k10, k11, k12, k13⟩ := (HK.out _ hC6).2.1.cells
  go_wp2_with fail
  refine (hTk _ hC6).mono ?_
  rintro x w7 ⟨rfl, hb7⟩
  have hC7 := below_after_of hC6 hb7
  clear hb7
  clear k0 k1 k2 k3 k4 k5 k6 k7 k8 k9 k10 k11 k12 k13
  obtain ⟨k0, k1, k2, k3, k4, k5, k6, k7, k8, k9, k10, k11, k12, k13⟩ := (HK.out _ hC7).2.1.cells
  go_wp2_with fail
  obtain ⟨W9, hW9⟩ : ∃ W9, W9 = w7.alloc (.cells #[.int .i64 ky, .bool false, .string ⟨#[]⟩, .int .i64 0, .int .i64 0, .int .i64 0] 39) := ⟨_, rfl⟩
  have HW9 : Hid (w7.alloc (.cells #[.int .i64 ky, .bool false, .string ⟨#[]⟩, .int .i64 0, .int .i64 0, .int .i64 0] 39) = W9) := hW9.symm
  have hC8 : Below W.heap.size W W9 := by rw [hW9]; exact hC7.alloc hC7.size _
  have O8 : W9.heap[w7.heap.size]? = some (.cells #[.int .i64 ky, .bool false, .string ⟨#[]⟩, .int .i64 0, .int .i64 0, .int .i64 0] 39) := by rw [hW9]; exact heap_alloc_new _ _
  have hg8 : w.heap.size + 2 < w7.heap.size := (Array.getElem?_eq_some_iff.1 (HK.out _ hC7).2.2).1
  rw [HW9.out]
  clear k0 k1 k2 k3 k4 k5 k6 k7 k8 k9 k10 k11 k12 k13 hW9
  obtain ⟨k0, k1, k2, k3, k4, k5, k6, k7, k8, k9, k10, k11, k12, k13⟩ := (HK.out _ hC8).2.1.cells
  have q1 := After.cell k1
  have q2 := After.cell k2
  have hne := After.ne W9
  refine wp_region_after (by kernel_rfl) (by kernel_rfl) ?_
  repeat (first | go_big_quiet_skip | (go_big_quiet_want; go_big_quiet_op; first | go_big_quiet_on | go_big_quiet_call (first | (go_at_call 38; refine (hFo _).mono ?_; rintro x wq ⟨rfl, hbq⟩; exact ⟨rfl, after_mk (below_after_of (After.b _) hbq)⟩))))
  refine wpQuiet_nil ?_
  rintro _ ⟨n9, rfl⟩
  have hb9 := n9.b
  have hC9 := below_after_of hC8 hb9
  have O9 := (hb9.block _ (Array.getElem?_eq_some_iff.1 O8).1).trans O8
  generalize n9.w = w9 at *
  clear k0 k1 k2 k3 k4 k5 k6 k7 k8 k9 k10 k11 k12 k13 q1 q2 hne n9 O8 hb9 hC8
  obtain ⟨k0, k1, k2, k3, k4, k5, k6, k7, k8, k9, k10, k11, k12, k13⟩ := (HK.out _ hC9).2.1.cells
  obtain ⟨g0, g1, g2, g3, g4, g5, e0, e1, e2, e3, e4, e5⟩ := six_cellsA O9
  obtain ⟨c0, c1, c2, c3, c4, c5, c6, f0, f1, f2, f3, f4, f5, f6⟩ := seven_cells (HK.out _ hC9).2.2
  have hBB := below_after_of hB hC9
  have hgl := hB.size
  have hgn : ¬ (w7.heap.size = w.heap.size + 2) := by omega
  have hgn' : ¬ (w.heap.size + 2 = w7.heap.size) := by omega
  have hgm : ¬ (w7.heap.size = w.heap.size + 1) := by omega
  have hgm' : ¬ (w.heap.size + 1 = w7.heap.size) := by omega
  have hgw : w.heap.size ≤ w7.heap.size := by omega
  clear hF hL hRf hRt HK hK hC1 hC2 hC3 hC4 hC5 hC6 hC7 hKl hTk hC9 O9
  go_wp2
  refine bodyPost_ret (v := .agg #[.int .i64 0, .int .i64 ky, .bool false, .string ⟨#[]⟩, .int .i64 0, .int .i64 0, .int .i64 0]) (by simp [results, Tryz.results8, go_sem, *]) rfl ⟨rfl, set7 hBB (by omega) _ _ _ _ _ _ _⟩
set_option maxRecDepth 100000 in
set_option maxHeartbeats 4000000 in
theorem see_oy (he hp ho hn hv : Int) (s : ByteArray) (l : ByteArray) (v o p : Int) (so st : Bool) (sv : Int) (sp : Value) (sx : Bool) (sk sy : Int) (sf : Value) (ps : List Int) (f : Prl) (w : World) (hp0 : Ints .i64 w sp ps) (hv0 : Prs w sf f) (hs0 : l.size ≤ 1048576) (hpl : ps.length ≤ 1048576) (hls : s.size ≤ 1048576) (h0 : hdC he hp ho hn hv = 0) (h2 : labelP s = 0) (h3 : rpC he true l v o p st sv (sdC so st sv ps.length (tlZ sx sk sy f)) = 0) (h4 : rootB so hp = true) (hl12 : l.size ≤ 12) (h7 : keyI l = keyI s) (h8 : tkB so st (keyI s) sv ps sx sk sy f (rootV so ho hn) = true) (h9 : (l.toList == (foldS s).toList) = true) :
    Calls Tryz.prog 8 #[hdV he hp ho hn hv, .string s, rpV he true l v o p so st sv sp sx sk sy sf] w fun x w' => x = .returned (.agg #[.int .i64 0, .int .i64 (keyI s), .bool true, .string l, .int .i64 v, .int .i64 o, .int .i64 p]) ∧ Below w.heap.size w w' := by
  obtain ⟨a, c, rfl⟩ := hp0.shape
  obtain ⟨a', c', rfl⟩ := hv0.shape
  obtain ⟨W, hW⟩ : ∃ W, W = ((w.alloc (.cells #[.int .i64 he, .int .i64 hp, .int .i64 ho, .int .i64 hn, .int .i64 hv] 43)).alloc (.cells #[.int .i64 he, .bool true, .string l, .int .i64 v, .int .i64 o, .int .i64 p, .bool so, .bool st, .int .i64 sv, .slice a ps.length c, .bool sx, .int .i64 sk, .int .i64 sy, .slice a' f.length c'] 52)).alloc (.cells #[.int .i64 0, .int .i64 0, .bool false, .string ⟨#[]⟩, .int .i64 0, .int .i64 0, .int .i64 0] 41) := ⟨_, rfl⟩
  have HW : Hid (((w.alloc (.cells #[.int .i64 he, .int .i64 hp, .int .i64 ho, .int .i64 hn, .int .i64 hv] 43)).alloc (.cells #[.int .i64 he, .bool true, .string l, .int .i64 v, .int .i64 o, .int .i64 p, .bool so, .bool st, .int .i64 sv, .slice a ps.length c, .bool sx, .int .i64 sk, .int .i64 sy, .slice a' f.length c'] 52)).alloc (.cells #[.int .i64 0, .int .i64 0, .bool false, .string ⟨#[]⟩, .int .i64 0, .int .i64 0, .int .i64 0] 41) = W) := hW.symm
  have hB : Below w.heap.size w W := by rw [hW]; exact three_new _ _ _
  have A0 : HdS W w.heap.size 0 ⟨he, hp, ho, hn, hv⟩ ∧ RpB W (w.heap.size + 1) he true l v o p so st sv (.slice a ps.length c) sx sk sy (.slice a' f.length c') ∧ W.heap[w.heap.size + 2]? = some (.cells #[.int .i64 0, .int .i64 0, .bool false, .string ⟨#[]⟩, .int .i64 0, .int .i64 0, .int .i64 0] 41) := by rw [hW]; exact see_boxes w he hp ho hn hv he true l v o p so st sv _ sx sk sy _
  have HK : Hid (∀ w', Below W.heap.size W w' → HdS w' w.heap.size 0 ⟨he, hp, ho, hn, hv⟩ ∧ RpB w' (w.heap.size + 1) he true l v o p so st sv (.slice a ps.length c) sx sk sy (.slice a' f.length c') ∧ w'.heap[w.heap.size + 2]? = some (.cells #[.int .i64 0, .int .i64 0, .bool false, .string ⟨#[]⟩, .int .i64 0, .int .i64 0, .int .i64 0] 41)) := fun w' hb => see_below A0 hb
  have hF := l10Fault_any w.heap.size 0 he hp ho hn hv W A0.1
  have hRf := fun w' (hb : Below W.heap.size W w') => l13Fault_any (w.heap.size + 1) he true l v o p so st sv a ps.length c sx sk sy a' f.length c' (tlZ sx sk sy f) w' (A0.2.1.below hb) (tlZ_how sx sk sy f) hs0
  have hRt := fun w' (hb : Below W.heap.size W w') => l13Root_any w.heap.size so he hp ho hn hv w' (see_below A0 hb).1
  have hTk := fun w' (hb : Below W.heap.size W w') => l13Taken_any (w.heap.size + 1) (keyI s) (rootV so ho hn) he true l v o p so st sv _ sx sk sy _ ps f w' (A0.2.1.below hb) (hp0.below (below_after_of hB hb)) (hv0.below (below_after_of hB hb)) hpl
  have hL := fun w => l1Label_any s w hls
  rw [h0] at hF
  rw [h2] at hL
  have h2k := h2
  rw [h3] at hRf
  clear h0 h2 h3
  rw [h4] at hRt
  have h6 : (he != he) = false := by simp
  have h12 : s.size ≤ 12 := labelP_small h2k
  have hK := fun w => l2Key_any s w h12
  have hKl := fun w => l2Key_any l w hl12
  have hFo := fun w => l1Fold_any s w h12
  generalize foldS s = fs at *
  rw [h8] at hTk
  generalize rootV so ho hn = rv at *
  rw [h7] at hKl
  generalize keyI s = ky at *
  have h10 : (ky != ky) = false := by simp
  clear h4 h8 h2k
  generalize ps.length = pn at *
  generalize f.length = fn at *
  unfold hdV rpV
  clear hW hp0 hv0 A0
  go_enter Tryz.func8, Tryz.ntmps8
  go_wp2_with fail
  rw [HW.out]
  refine (hF).mono ?_
  rintro x w1 ⟨rfl, hb1⟩
  have hC1 := hb1
  clear hb1
  go_wp2_with fail
  refine (hL _).mono ?_
  rintro x w2 ⟨rfl, hb2⟩
  have hC2 := below_after_of hC1 hb2
  clear hb2
  go_wp2_with fail
  refine (hRf _ hC2).mono ?_
  rintro x w3 ⟨rfl, hb3⟩
  have hC3 := below_after_of hC2 hb3
  clear hb3
  obtain ⟨k0, k1, k2, k3, k4, k5, k6, k7, k8, k9, k10, k11, k12, k13⟩ := (HK.out _ hC3).2.1.cells
  go_wp2_with fail
  refine (hRt _ hC3).mono ?_
  rintro x w4 ⟨rfl, hb4⟩
  have hC4 := below_after_of hC3 hb4
  clear hb4
  clear k0 k1 k2 k3 k4 k5 k6 k7 k8 k9 k10 k11 k12 k13
  obtain ⟨k0, k1, k2, k3, k4, k5, k6, k7, k8, k9, k10, k11, k12, k13⟩ := (HK.out _ hC4).2.1.cells
  have d0 := (HK.out _ hC4).1.c0
  go_wp2_with fail
  refine (hK _).mono ?_
  rintro x w5 ⟨rfl, hb5⟩
  have hC5 := below_after_of hC4 hb5
  clear hb5
  clear k0 k1 k2 k3 k4 k5 k6 k7 k8 k9 k10 k11 k12 k13 d0
  obtain ⟨k0, k1, k2, k3, k4, k5, k6, k7, k8, k9, k10, k11, k12, k13⟩ := (HK.out _ hC5).2.1.cells
  go_wp2_with fail
  refine (hKl _).mono ?_
  rintro x w6 ⟨rfl, hb6⟩
  have hC6 := below_after_of hC5 hb6
  clear hb6
  clear k0 k1 k2 k3 k4 k5 k6 k7 k8 k9 k10 k11 k12 k13
  obtain ⟨k0, k1, k2, k3, k4, k5, k6, k7, k8, k9, k10, k11, k12, k13⟩ := (HK.out _ hC6).2.1.cells
  go_wp2_with fail
  refine (hTk _ hC6).mono ?_
  rintro x w7 ⟨rfl, hb7⟩
  have hC7 := below_after_of hC6 hb7
  clear hb7
  clear k0 k1 k2 k3 k4 k5 k6 k7 k8 k9 k10 k11 k12 k13
  obtain ⟨k0, k1, k2, k3, k4, k5, k6, k7, k8, k9, k10, k11, k12, k13⟩ := (HK.out _ hC7).2.1.cells
  go_wp2_with fail
  obtain ⟨W9, hW9⟩ : ∃ W9, W9 = w7.alloc (.cells #[.int .i64 ky, .bool false, .string ⟨#[]⟩, .int .i64 0, .int .i64 0, .int .i64 0] 39) := ⟨_, rfl⟩
  have HW9 : Hid (w7.alloc (.cells #[.int .i64 ky, .bool false, .string ⟨#[]⟩, .int .i64 0, .int .i64 0, .int .i64 0] 39) = W9) := hW9.symm
  have hC8 : Below W.heap.size W W9 := by rw [hW9]; exact hC7.alloc hC7.size _
  have O8 : W9.heap[w7.heap.size]? = some (.cells #[.int .i64 ky, .bool false, .string ⟨#[]⟩, .int .i64 0, .int .i64 0, .int .i64 0] 39) := by rw [hW9]; exact heap_alloc_new _ _
  have hg8 : w.heap.size + 2 < w7.heap.size := (Array.getElem?_eq_some_iff.1 (HK.out _ hC7).2.2).1
  rw [HW9.out]
  clear k0 k1 k2 k3 k4 k5 k6 k7 k8 k9 k10 k11 k12 k13 hW9
  obtain ⟨k0, k1, k2, k3, k4, k5, k6, k7, k8, k9, k10, k11, k12, k13⟩ := (HK.out _ hC8).2.1.cells
  have q1 := After.cell k1
  have q2 := After.cell k2
  have hne := After.ne W9
  refine wp_region_after (by kernel_rfl) (by kernel_rfl) ?_
  repeat (first | go_big_quiet_skip | (go_big_quiet_want; go_big_quiet_op; first | go_big_quiet_on | go_big_quiet_call (first | (go_at_call 38; refine (hFo _).mono ?_; rintro x wq ⟨rfl, hbq⟩; exact ⟨rfl, after_mk (below_after_of (After.b _) hbq)⟩))))
  refine wpQuiet_nil ?_
  rintro _ ⟨n9, rfl⟩
  have hb9 := n9.b
  have hC9 := below_after_of hC8 hb9
  have O9 := (hb9.block _ (Array.getElem?_eq_some_iff.1 O8).1).trans O8
  generalize n9.w = w9 at *
  clear k0 k1 k2 k3 k4 k5 k6 k7 k8 k9 k10 k11 k12 k13 q1 q2 hne n9 O8 hb9 hC8
  obtain ⟨k0, k1, k2, k3, k4, k5, k6, k7, k8, k9, k10, k11, k12, k13⟩ := (HK.out _ hC9).2.1.cells
  obtain ⟨g0, g1, g2, g3, g4, g5, e0, e1, e2, e3, e4, e5⟩ := six_cellsA O9
  obtain ⟨c0, c1, c2, c3, c4, c5, c6, f0, f1, f2, f3, f4, f5, f6⟩ := seven_cells (HK.out _ hC9).2.2
  have hBB := below_after_of hB hC9
  have hgl := hB.size
  have hgn : ¬ (w7.heap.size = w.heap.size + 2) := by omega
  have hgn' : ¬ (w.heap.size + 2 = w7.heap.size) := by omega
  have hgm : ¬ (w7.heap.size = w.heap.size + 1) := by omega
  have hgm' : ¬ (w.heap.size + 1 = w7.heap.size) := by omega
  have hgw : w.heap.size ≤ w7.heap.size := by omega
  have R9 := (HK.out _ hC9).2.1
  have A9 := (HK.out _ hC9).2.2
  clear k0 k1 k2 k3 k4 k5 k6 k7 k8 k9 k10 k11 k12 k13 g0 g2 g3 g4 g5 e0 e2 e3 e4 e5 c0 c1 c2 c3 c4 c5 c6 f0 f1 f2 f3 f4 f5 f6
  go_upto_region 19 with fail
  obtain ⟨WA, hWA⟩ : ∃ WA, WA = w9.setCell ⟨w7.heap.size, 1, none⟩ (.bool true) := ⟨_, rfl⟩
  have HWA : Hid (w9.setCell ⟨w7.heap.size, 1, none⟩ (.bool true) = WA) := hWA.symm
  have OA : WA.heap[w7.heap.size]? = some (.cells #[.int .i64 ky, .bool true, .string ⟨#[]⟩, .int .i64 0, .int .i64 0, .int .i64 0] 39) := by rw [hWA]; simpa using heap_setCell_same w9 w7.heap.size 1 _ _ (.bool true) O9
  have RA : RpB WA (w.heap.size + 1) he true l v o p so st sv (.slice a pn c) sx sk sy (.slice a' fn c') := by rw [hWA]; exact ⟨(heap_setCell_other _ ⟨w7.heap.size, 1, none⟩ _ _ hgm').trans R9.h⟩
  have AA : WA.heap[w.heap.size + 2]? = some (.cells #[.int .i64 0, .int .i64 0, .bool false, .string ⟨#[]⟩, .int .i64 0, .int .i64 0, .int .i64 0] 41) := by rw [hWA]; exact (heap_setCell_other _ ⟨w7.heap.size, 1, none⟩ _ _ hgn').trans A9
  have hBA : Below w.heap.size w WA := by rw [hWA]; exact hBB.setCell hgw _
  rw [HWA.out]
  clear hF hL hRf hRt HK hK hC1 hC2 hC3 hC4 hC5 hC6 hC7 hKl hTk hC9 O9 R9 A9 g1 e1 hBB HWA hWA
  obtain ⟨g0, g1, g2, g3, g4, g5, e0, e1, e2, e3, e4, e5⟩ := six_cellsA OA
  obtain ⟨-, -, k2, k3, k4, k5, -⟩ := RA.cells
  go_upto_region 20 with fail
  obtain ⟨WB, hWB⟩ : ∃ WB, WB = (((WA.setCell ⟨w7.heap.size, 2, none⟩ (.string l)).setCell ⟨w7.heap.size, 3, none⟩ (.int .i64 v)).setCell ⟨w7.heap.size, 4, none⟩ (.int .i64 o)).setCell ⟨w7.heap.size, 5, none⟩ (.int .i64 p) := ⟨_, rfl⟩
  have HWB : Hid ((((WA.setCell ⟨w7.heap.size, 2, none⟩ (.string l)).setCell ⟨w7.heap.size, 3, none⟩ (.int .i64 v)).setCell ⟨w7.heap.size, 4, none⟩ (.int .i64 o)).setCell ⟨w7.heap.size, 5, none⟩ (.int .i64 p) = WB) := hWB.symm
  have OB : WB.heap[w7.heap.size]? = some (.cells #[.int .i64 ky, .bool true, .string l, .int .i64 v, .int .i64 o, .int .i64 p] 39) := by rw [hWB]; exact put_rec6 OA _ _ _ _
  have AB : WB.heap[w.heap.size + 2]? = some (.cells #[.int .i64 0, .int .i64 0, .bool false, .string ⟨#[]⟩, .int .i64 0, .int .i64 0, .int .i64 0] 41) := by rw [hWB]; exact (other_rec6 hgn' _ _ _ _).trans AA
  have hBB : Below w.heap.size w WB := by rw [hWB]; exact (((hBA.setCell hgw _).setCell hgw _).setCell hgw _).setCell hgw _
  rw [HWB.out]
  clear g0 g1 g2 g3 g4 g5 e0 e1 e2 e3 e4 e5 k2 k3 k4 k5 OA RA AA hBA HWB hWB
  obtain ⟨g0, g1, g2, g3, g4, g5, e0, e1, e2, e3, e4, e5⟩ := six_cellsA OB
  obtain ⟨c0, c1, c2, c3, c4, c5, c6, f0, f1, f2, f3, f4, f5, f6⟩ := seven_cells AB
  clear OB AB
  go_wp2
  refine bodyPost_ret (v := .agg #[.int .i64 0, .int .i64 ky, .bool true, .string l, .int .i64 v, .int .i64 o, .int .i64 p]) (by simp [results, Tryz.results8, go_sem, *]) rfl ⟨rfl, set7 hBB (by omega) _ _ _ _ _ _ _⟩
theorem specSeeReply_any (he hp ho hn hv : Int) (s : ByteArray) (e : Int) (hl : Bool) (l : ByteArray) (v o p : Int) (so st : Bool) (sv : Int) (sp : Value) (sx : Bool) (sk sy : Int) (sf : Value) (ps : List Int) (f : Prl) (w : World) (hp0 : Ints .i64 w sp ps) (hv0 : Prs w sf f) (hs0 : l.size ≤ 1048576) (hpl : ps.length ≤ 1048576) (hls : s.size ≤ 1048576) :
    Calls Tryz.prog 8 #[hdV he hp ho hn hv, .string s, rpV e hl l v o p so st sv sp sx sk sy sf] w fun x w' => x = .returned (seeVal he hp ho hn hv s e hl l v o p so st sv ps sx sk sy f) ∧ Below w.heap.size w w' := by
  unfold seeVal
  by_cases h0 : hdC he hp ho hn hv = 0
  · by_cases h2 : labelP s = 0
    · by_cases h3 : rpC e hl l v o p st sv (sdC so st sv ps.length (tlZ sx sk sy f)) = 0
      · rw [seC_ok h0 h2 h3]
        rcases Bool.eq_false_or_eq_true (rootB so hp) with h4 | h4
        · by_cases h5 : e = he
          · subst h5
            rw [h4, show (true && (e == e)) = true by simp, if_pos rfl]
            cases hl
            · rcases Bool.eq_false_or_eq_true (tkB so st (keyI s) sv ps sx sk sy f (rootV so ho hn)) with h8 | h8
              · rw [h8, show (!otB false l s && true) = true from rfl, if_pos rfl, seV_yes, seO_no (show (false && (l.toList == (foldS s).toList)) = false from rfl)]
                exact see_of e hp ho hn hv s l v o p so st sv sp sx sk sy sf ps f w hp0 hv0 hs0 hpl hls h0 h2 h3 h4 h8
              · rw [h8, show (!otB false l s && false) = false from rfl, if_neg (by decide), seV_no (by decide)]
                exact see_pf e hp ho hn hv s l v o p so st sv sp sx sk sy sf ps f w hp0 hv0 hs0 hpl hls h0 h2 h3 h4 h8
            · have hl12 := (recOk (rpC_zero h3 rfl)).small
              by_cases h7 : keyI l = keyI s
              · rw [show otB true l s = false by unfold otB; simp [h7]]
                rcases Bool.eq_false_or_eq_true (tkB so st (keyI s) sv ps sx sk sy f (rootV so ho hn)) with h8 | h8
                · rw [h8, show (!false && true) = true from rfl, if_pos rfl, seV_yes]
                  rcases Bool.eq_false_or_eq_true (l.toList == (foldS s).toList) with h9 | h9
                  · rw [seO_yes h9]
                    exact see_oy e hp ho hn hv s l v o p so st sv sp sx sk sy sf ps f w hp0 hv0 hs0 hpl hls h0 h2 h3 h4 hl12 h7 h8 h9
                  · rw [seO_no (show (true && (l.toList == (foldS s).toList)) = false from h9)]
                    exact see_on e hp ho hn hv s l v o p so st sv sp sx sk sy sf ps f w hp0 hv0 hs0 hpl hls h0 h2 h3 h4 hl12 h7 h8 h9
                · rw [h8, show (!false && false) = false from rfl, if_neg (by decide), seV_no (by decide)]
                  exact see_pt e hp ho hn hv s l v o p so st sv sp sx sk sy sf ps f w hp0 hv0 hs0 hpl hls h0 h2 h3 h4 hl12 h7 h8
              · rw [show otB true l s = true by unfold otB; simpa using h7, show (!true && tkB so st (keyI s) sv ps sx sk sy f (rootV so ho hn)) = false from rfl, if_neg (by decide), seV_no (by decide)]
                exact see_pk e hp ho hn hv s l v o p so st sv sp sx sk sy sf ps f w hp0 hv0 hs0 hpl hls h0 h2 h3 h4 hl12 h7
          · rw [show (rootB so hp && (e == he)) = false by simp [h5], if_neg (by decide), seV_no (by decide)]
            exact see_s2 he hp ho hn hv s e hl l v o p so st sv sp sx sk sy sf ps f w hp0 hv0 hs0 hpl hls h0 h2 h3 h4 h5
        · rw [show (rootB so hp && (e == he)) = false by rw [h4]; rfl, if_neg (by decide), seV_no (by decide)]
          exact see_s1 he hp ho hn hv s e hl l v o p so st sv sp sx sk sy sf ps f w hp0 hv0 hs0 hpl hls h0 h2 h3 h4
      · have hq : ¬ (if hdC he hp ho hn hv = 0 then (if labelP s = 0 then rpC e hl l v o p st sv (sdC so st sv ps.length (tlZ sx sk sy f)) else labelP s) else hdC he hp ho hn hv) = 0 := by rw [if_pos h0, if_pos h2]; exact h3
        rw [seC_bad hq, seV_no hq, if_pos h0, if_pos h2]
        exact see_r he hp ho hn hv s e hl l v o p so st sv sp sx sk sy sf ps f w hp0 hv0 hs0 hpl hls h0 h2 h3
    · have hq : ¬ (if hdC he hp ho hn hv = 0 then (if labelP s = 0 then rpC e hl l v o p st sv (sdC so st sv ps.length (tlZ sx sk sy f)) else labelP s) else hdC he hp ho hn hv) = 0 := by rw [if_pos h0, if_neg h2]; exact h2
      rw [seC_bad hq, seV_no hq, if_pos h0, if_neg h2]
      exact see_l he hp ho hn hv s e hl l v o p so st sv sp sx sk sy sf ps f w hp0 hv0 hs0 hpl hls h0 h2
  · have hq : ¬ (if hdC he hp ho hn hv = 0 then (if labelP s = 0 then rpC e hl l v o p st sv (sdC so st sv ps.length (tlZ sx sk sy f)) else labelP s) else hdC he hp ho hn hv) = 0 := by rw [if_neg h0]; exact h0
    rw [seC_bad hq, seV_no hq, if_neg h0]
    exact see_h he hp ho hn hv s e hl l v o p so st sv sp sx sk sy sf ps f w hp0 hv0 hs0 hpl h0
end U
end Go.Proofs.YtdbbmclobmigdaaGreat
