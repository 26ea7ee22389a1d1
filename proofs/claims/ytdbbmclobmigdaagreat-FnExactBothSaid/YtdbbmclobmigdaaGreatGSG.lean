/- Joined: what the texts behind it need. -/
import Derived.Test.YtdbbmclobmigdaaGreatGSD
import Derived.Test.YtdbbmclobmigdaaGreatGSF
import Derived.Test.YtdbbmclobmigdaaGreatGSE
/- A reply that is seen: what the program answers. -/
namespace Go.Proofs.YtdbbmclobmigdaaGreat
open Go.RowKit
namespace U
attribute [local go_sem] run_store_fn
theorem three_intsS {w : World} {g : Nat} {a b d : Int} {t : TypeId} (hg : g = w.heap.size) : Ints .i64 (w.alloc (.cells #[.int .i64 a, .int .i64 b, .int .i64 d] t)) (.slice (some ⟨g, 0, none⟩) 3 3) [a, b, d] := by
  subst hg
  have hh := heap_alloc_new w (.cells #[.int .i64 a, .int .i64 b, .int .i64 d] t)
  refine Or.inr ⟨w.heap.size, 0, 3, rfl, by simp, fun j hj => ?_⟩
  have hj2 : j < 3 := hj
  rcases (show j = 0 ∨ j = 1 ∨ j = 2 by omega) with rfl | rfl | rfl <;> (unfold World.cell?; rw [hh]; rfl)
theorem see_cells {W : World} {he hp ho hn hv : Int} {g : Nat} {e : Int} {hl : Bool} {l : ByteArray} {v o p : Int} {so st : Bool} {sv : Int} {sp : Value} {sx : Bool} {sk sy : Int} {sf : Value} {O : Obj} (h : HdS W g 0 ⟨he, hp, ho, hn, hv⟩ ∧ RpB W (g + 1) e hl l v o p so st sv sp sx sk sy sf ∧ W.heap[g + 2]? = some O) :
    (W.cell? ⟨g, 0, none⟩ = some (.int .i64 he) ∧ W.cell? ⟨g, 1, none⟩ = some (.int .i64 hp) ∧ W.cell? ⟨g, 2, none⟩ = some (.int .i64 ho) ∧ W.cell? ⟨g, 3, none⟩ = some (.int .i64 hn) ∧ W.cell? ⟨g, 4, none⟩ = some (.int .i64 hv)) ∧ (W.cell? ⟨g + 1, 0, none⟩ = some (.int .i64 e) ∧ W.cell? ⟨g + 1, 1, none⟩ = some (.bool hl) ∧ W.cell? ⟨g + 1, 2, none⟩ = some (.string l) ∧ W.cell? ⟨g + 1, 3, none⟩ = some (.int .i64 v) ∧ W.cell? ⟨g + 1, 4, none⟩ = some (.int .i64 o) ∧ W.cell? ⟨g + 1, 5, none⟩ = some (.int .i64 p) ∧ W.cell? ⟨g + 1, 6, none⟩ = some (.bool so) ∧ W.cell? ⟨g + 1, 7, none⟩ = some (.bool st) ∧ W.cell? ⟨g + 1, 8, none⟩ = some (.int .i64 sv) ∧ W.cell? ⟨g + 1, 9, none⟩ = some sp ∧ W.cell? ⟨g + 1, 10, none⟩ = some (.bool sx) ∧ W.cell? ⟨g + 1, 11, none⟩ = some (.int .i64 sk) ∧ W.cell? ⟨g + 1, 12, none⟩ = some (.int .i64 sy) ∧ W.cell? ⟨g + 1, 13, none⟩ = some sf) :=
  ⟨⟨h.1.c0, h.1.c1, h.1.c2, h.1.c3, h.1.c4⟩, h.2.1.cells⟩
/-- The tree that one asks by, its functions as numbers. -/
def trF1 (so : Bool) : Nat := if so = true then 85 else 88
def trF2 (so : Bool) : Nat := if so = true then 86 else 89
def trF3 (so : Bool) : Nat := if so = true then 87 else 90
theorem trF_two (so : Bool) : (trF1 so = 85 ∧ trF3 so = 87) ∨ (trF1 so = 88 ∧ trF3 so = 90) := by
  cases so
  · exact Or.inr ⟨rfl, rfl⟩
  · exact Or.inl ⟨rfl, rfl⟩
theorem treeFor_f (so : Bool) (w : World) : Calls Tryz.prog 45 #[.bool so] w fun e w' => e = .returned (.agg #[.func (.func (trF1 so)) #[] #[], .func (.func (trF2 so)) #[] #[], .func (.func (trF3 so)) #[] #[]]) ∧ Below w.heap.size w w' := by
  cases so
  · exact treeFor_new w
  · exact treeFor_old w
theorem rootF_any (so : Bool) (p : Int) (w : World) : Calls Tryz.prog (trF1 so) #[.int .i64 p] w fun e w' => e = .returned (.bool (rootB so p)) ∧ w' = w := by
  cases so
  · exact hasNew_any p w
  · exact hasOld_any p w
theorem takenF_any (he hp ho hn hv key : Int) (so st : Bool) (sv : Int) (sp : Value) (sx : Bool) (sk sy : Int) (sf : Value) (ps : List Int) (f : Prl) (w : World) (hp0 : Ints .i64 w sp ps) (hv0 : Prs w sf f) :
    Calls Tryz.prog (trF3 so) #[.agg #[.int .i64 he, .int .i64 hp, .int .i64 ho, .int .i64 hn, .int .i64 hv], .int .i64 key, .agg #[.bool so, .bool st, .int .i64 sv, sp, .bool sx, .int .i64 sk, .int .i64 sy, sf]] w fun x w' => x = .returned (.bool (tkB so st key sv ps sx sk sy f (rootV so ho hn))) ∧ Below w.heap.size w w' := by
  cases so
  · exact takenByNew_any he hp ho hn hv key false st sv sp sx sk sy sf ps f w hp0 hv0
  · exact takenByOld_any he hp ho hn hv key true st sv sp sx sk sy sf ps f w hp0 hv0
set_option maxRecDepth 100000 in
set_option maxHeartbeats 4000000 in
theorem isee_bad (he hp ho hn hv : Int) (s : ByteArray) (e : Int) (hl : Bool) (l : ByteArray) (v o p : Int) (so st : Bool) (sv : Int) (sp : Value) (sx : Bool) (sk sy : Int) (sf : Value) (ps : List Int) (f : Prl) (w : World) (hp0 : Ints .i64 w sp ps) (hv0 : Prs w sf f) (hs0 : l.size ≤ 1048576) (hpl : ps.length ≤ 1048576) (hls : s.size ≤ 1048576) (hfl : f.length ≤ 1048576) (h0 : ¬ (if hdC he hp ho hn hv = 0 then (if labelP s = 0 then rpC e hl l v o p st sv (sdC so st sv ps.length (tlZ sx sk sy f)) else labelP s) else hdC he hp ho hn hv) = 0) :
    Calls Tryz.prog 11 #[hdV he hp ho hn hv, .string s, rpV e hl l v o p so st sv sp sx sk sy sf] w fun x w' => x = .returned (.agg #[.int .i64 (if hdC he hp ho hn hv = 0 then (if labelP s = 0 then rpC e hl l v o p st sv (sdC so st sv ps.length (tlZ sx sk sy f)) else labelP s) else hdC he hp ho hn hv), .int .i64 0, .bool false, .string ⟨#[]⟩, .int .i64 0, .int .i64 0, .int .i64 0]) ∧ Below w.heap.size w w' := by
  obtain ⟨a, c, rfl⟩ := hp0.shape
  obtain ⟨a', c', rfl⟩ := hv0.shape
  obtain ⟨W, hW⟩ : ∃ W, W = ((w.alloc (.cells #[.int .i64 he, .int .i64 hp, .int .i64 ho, .int .i64 hn, .int .i64 hv] 43)).alloc (.cells #[.int .i64 e, .bool hl, .string l, .int .i64 v, .int .i64 o, .int .i64 p, .bool so, .bool st, .int .i64 sv, .slice a ps.length c, .bool sx, .int .i64 sk, .int .i64 sy, .slice a' f.length c'] 52)).alloc (.cells #[.int .i64 0, .int .i64 0, .bool false, .string ⟨#[]⟩, .int .i64 0, .int .i64 0, .int .i64 0] 41) := ⟨_, rfl⟩
  have HW : Hid (((w.alloc (.cells #[.int .i64 he, .int .i64 hp, .int .i64 ho, .int .i64 hn, .int .i64 hv] 43)).alloc (.cells #[.int .i64 e, .bool hl, .string l, .int .i64 v, .int .i64 o, .int .i64 p, .bool so, .bool st, .int .i64 sv, .slice a ps.length c, .bool sx, .int .i64 sk, .int .i64 sy, .slice a' f.length c'] 52)).alloc (.cells #[.int .i64 0, .int .i64 0, .bool false, .string ⟨#[]⟩, .int .i64 0, .int .i64 0, .int .i64 0] 41) = W) := hW.symm
  have hB : Below w.heap.size w W := by rw [hW]; exact three_new _ _ _
  have A0 : HdS W w.heap.size 0 ⟨he, hp, ho, hn, hv⟩ ∧ RpB W (w.heap.size + 1) e hl l v o p so st sv (.slice a ps.length c) sx sk sy (.slice a' f.length c') ∧ W.heap[w.heap.size + 2]? = some (.cells #[.int .i64 0, .int .i64 0, .bool false, .string ⟨#[]⟩, .int .i64 0, .int .i64 0, .int .i64 0] 41) := by rw [hW]; exact see_boxes w he hp ho hn hv e hl l v o p so st sv _ sx sk sy _
  have HK : Hid (∀ w', Below W.heap.size W w' → HdS w' w.heap.size 0 ⟨he, hp, ho, hn, hv⟩ ∧ RpB w' (w.heap.size + 1) e hl l v o p so st sv (.slice a ps.length c) sx sk sy (.slice a' f.length c') ∧ w'.heap[w.heap.size + 2]? = some (.cells #[.int .i64 0, .int .i64 0, .bool false, .string ⟨#[]⟩, .int .i64 0, .int .i64 0, .int .i64 0] 41)) := fun w' hb => see_below A0 hb
  have hF := fun w => implHeadFault_any he hp ho hn hv w
  have hL := fun w => implLabelFault_any s w hls
  have hRf := fun w' (hb : Below W.heap.size W w') => implReplyFault_any e hl l v o p so st sv _ ps sx sk sy _ f w' (hp0.below (below_after_of hB hb)) (hv0.below (below_after_of hB hb)) (by omega) (by omega) hs0
  have hOr := fun u w hu => cmpOr3 (hdC he hp ho hn hv) (labelP s) (rpC e hl l v o p st sv (sdC so st sv ps.length (tlZ sx sk sy f))) u w hu
  have h1 := code_ne h0
  generalize (if hdC he hp ho hn hv = 0 then (if labelP s = 0 then rpC e hl l v o p st sv (sdC so st sv ps.length (tlZ sx sk sy f)) else labelP s) else hdC he hp ho hn hv) = q at *
  generalize rpC e hl l v o p st sv (sdC so st sv ps.length (tlZ sx sk sy f)) = q3 at *
  generalize hdC he hp ho hn hv = q1 at *
  generalize labelP s = q2 at *
  generalize ps.length = pn at *
  generalize f.length = fn at *
  unfold hdV rpV at *
  have hbr := Below.refl W.heap.size W
  have HBW : Hid (Below w.heap.size w W) := hB
  have HL := see_cells A0
  have HKC : Hid (∀ w', Below W.heap.size W w' → (w'.cell? ⟨w.heap.size, 0, none⟩ = some (.int .i64 he) ∧ w'.cell? ⟨w.heap.size, 1, none⟩ = some (.int .i64 hp) ∧ w'.cell? ⟨w.heap.size, 2, none⟩ = some (.int .i64 ho) ∧ w'.cell? ⟨w.heap.size, 3, none⟩ = some (.int .i64 hn) ∧ w'.cell? ⟨w.heap.size, 4, none⟩ = some (.int .i64 hv)) ∧ (w'.cell? ⟨w.heap.size + 1, 0, none⟩ = some (.int .i64 e) ∧ w'.cell? ⟨w.heap.size + 1, 1, none⟩ = some (.bool hl) ∧ w'.cell? ⟨w.heap.size + 1, 2, none⟩ = some (.string l) ∧ w'.cell? ⟨w.heap.size + 1, 3, none⟩ = some (.int .i64 v) ∧ w'.cell? ⟨w.heap.size + 1, 4, none⟩ = some (.int .i64 o) ∧ w'.cell? ⟨w.heap.size + 1, 5, none⟩ = some (.int .i64 p) ∧ w'.cell? ⟨w.heap.size + 1, 6, none⟩ = some (.bool so) ∧ w'.cell? ⟨w.heap.size + 1, 7, none⟩ = some (.bool st) ∧ w'.cell? ⟨w.heap.size + 1, 8, none⟩ = some (.int .i64 sv) ∧ w'.cell? ⟨w.heap.size + 1, 9, none⟩ = some (.slice a pn c) ∧ w'.cell? ⟨w.heap.size + 1, 10, none⟩ = some (.bool sx) ∧ w'.cell? ⟨w.heap.size + 1, 11, none⟩ = some (.int .i64 sk) ∧ w'.cell? ⟨w.heap.size + 1, 12, none⟩ = some (.int .i64 sy) ∧ w'.cell? ⟨w.heap.size + 1, 13, none⟩ = some (.slice a' fn c'))) := fun w' hb => see_cells (see_below A0 hb)
  clear hW hp0 hv0 A0 hB
  go_enter Tryz.func11, Tryz.ntmps11
  go_wp2_with fail
  rw [HW.out]
  go_region_held3 (fun w' => (w'.cell? ⟨w.heap.size, 0, none⟩ = some (.int .i64 he) ∧ w'.cell? ⟨w.heap.size, 1, none⟩ = some (.int .i64 hp) ∧ w'.cell? ⟨w.heap.size, 2, none⟩ = some (.int .i64 ho) ∧ w'.cell? ⟨w.heap.size, 3, none⟩ = some (.int .i64 hn) ∧ w'.cell? ⟨w.heap.size, 4, none⟩ = some (.int .i64 hv)) ∧ (w'.cell? ⟨w.heap.size + 1, 0, none⟩ = some (.int .i64 e) ∧ w'.cell? ⟨w.heap.size + 1, 1, none⟩ = some (.bool hl) ∧ w'.cell? ⟨w.heap.size + 1, 2, none⟩ = some (.string l) ∧ w'.cell? ⟨w.heap.size + 1, 3, none⟩ = some (.int .i64 v) ∧ w'.cell? ⟨w.heap.size + 1, 4, none⟩ = some (.int .i64 o) ∧ w'.cell? ⟨w.heap.size + 1, 5, none⟩ = some (.int .i64 p) ∧ w'.cell? ⟨w.heap.size + 1, 6, none⟩ = some (.bool so) ∧ w'.cell? ⟨w.heap.size + 1, 7, none⟩ = some (.bool st) ∧ w'.cell? ⟨w.heap.size + 1, 8, none⟩ = some (.int .i64 sv) ∧ w'.cell? ⟨w.heap.size + 1, 9, none⟩ = some (.slice a pn c) ∧ w'.cell? ⟨w.heap.size + 1, 10, none⟩ = some (.bool sx) ∧ w'.cell? ⟨w.heap.size + 1, 11, none⟩ = some (.int .i64 sk) ∧ w'.cell? ⟨w.heap.size + 1, 12, none⟩ = some (.int .i64 sy) ∧ w'.cell? ⟨w.heap.size + 1, 13, none⟩ = some (.slice a' fn c')))
    (first | with_reducible exact HL | with_reducible exact HKC.out _ hbr | with_reducible exact HKC.out _ hbr.drew | with_reducible exact HKC.out _ (hbr.alloc hbr.size _))
    (first
      | (go_at_call 42; refine (hF _).mono ?_; rintro x w1 ⟨rfl, hb1⟩; have hbr : Below W.heap.size W w1 := (by first | exact below_after_of hbr hb1 | exact below_after_of hbr.drew hb1))
      | (go_at_call 43; refine (hL _).mono ?_; rintro x w2 ⟨rfl, hb2⟩; have hbr : Below W.heap.size W w2 := (by first | exact below_after_of hbr hb2 | exact below_after_of hbr.drew hb2))
      | (go_at_call 44; refine (hRf _ (by first | exact hbr | exact hbr.drew)).mono ?_; rintro x w3 ⟨rfl, hb3⟩; have hbr : Below W.heap.size W w3 := (by first | exact below_after_of hbr hb3 | exact below_after_of hbr.drew hb3))
      | (go_at_call 41; refine (hOr _ _ (three_intsS rfl)).mono ?_; rintro x w5 ⟨rfl, hw5⟩; have hbr : Below W.heap.size W w5 := (by rw [hw5]; exact hbr.alloc hbr.size _); clear hw5))
  clear hF hL hRf hOr HL HKC
  obtain ⟨c0, c1, c2, c3, c4, c5, c6, f0, f1, f2, f3, f4, f5, f6⟩ := seven_cells (HK.out _ hbr).2.2
  have hBB := below_after_of HBW.out hbr
  clear HK hbr h0
  go_wp2
  exact bodyPost_ret (v := .agg #[.int .i64 q, .int .i64 0, .bool false, .string ⟨#[]⟩, .int .i64 0, .int .i64 0, .int .i64 0]) (by simp [results, Tryz.results11, go_sem, *]) rfl ⟨rfl, set7 hBB (by omega) _ _ _ _ _ _ _⟩
theorem three_cellsF {w : World} {b : Nat} {x0 x1 x2 : Value} {t : TypeId} (h : w.heap[b]? = some (.cells #[x0, x1, x2] t (0, 0))) : w.cell? ⟨b, 0, none⟩ = some x0 ∧ w.cell? ⟨b, 1, none⟩ = some x1 ∧ w.cell? ⟨b, 2, none⟩ = some x2 := by
  unfold World.cell?; rw [h]; exact ⟨rfl, rfl, rfl⟩
set_option maxRecDepth 100000 in
set_option maxHeartbeats 4000000 in
theorem isee_s2 (he hp ho hn hv : Int) (s : ByteArray) (e : Int) (hl : Bool) (l : ByteArray) (v o p : Int) (so st : Bool) (sv : Int) (sp : Value) (sx : Bool) (sk sy : Int) (sf : Value) (ps : List Int) (f : Prl) (w : World) (hp0 : Ints .i64 w sp ps) (hv0 : Prs w sf f) (hs0 : l.size ≤ 1048576) (hpl : ps.length ≤ 1048576) (hls : s.size ≤ 1048576) (hfl : f.length ≤ 1048576) (h0 : hdC he hp ho hn hv = 0) (h2 : labelP s = 0) (h3 : rpC e hl l v o p st sv (sdC so st sv ps.length (tlZ sx sk sy f)) = 0) (h5 : ¬ e = he) :
    Calls Tryz.prog 11 #[hdV he hp ho hn hv, .string s, rpV e hl l v o p so st sv sp sx sk sy sf] w fun x w' => x = .returned (.agg #[.int .i64 10, .int .i64 0, .bool false, .string ⟨#[]⟩, .int .i64 0, .int .i64 0, .int .i64 0]) ∧ Below w.heap.size w w' := by
  obtain ⟨a, c, rfl⟩ := hp0.shape
  obtain ⟨a', c', rfl⟩ := hv0.shape
  obtain ⟨W, hW⟩ : ∃ W, W = ((w.alloc (.cells #[.int .i64 he, .int .i64 hp, .int .i64 ho, .int .i64 hn, .int .i64 hv] 43)).alloc (.cells #[.int .i64 e, .bool hl, .string l, .int .i64 v, .int .i64 o, .int .i64 p, .bool so, .bool st, .int .i64 sv, .slice a ps.length c, .bool sx, .int .i64 sk, .int .i64 sy, .slice a' f.length c'] 52)).alloc (.cells #[.int .i64 0, .int .i64 0, .bool false, .string ⟨#[]⟩, .int .i64 0, .int .i64 0, .int .i64 0] 41) := ⟨_, rfl⟩
  have HW : Hid (((w.alloc (.cells #[.int .i64 he, .int .i64 hp, .int .i64 ho, .int .i64 hn, .int .i64 hv] 43)).alloc (.cells #[.int .i64 e, .bool hl, .string l, .int .i64 v, .int .i64 o, .int .i64 p, .bool so, .bool st, .int .i64 sv, .slice a ps.length c, .bool sx, .int .i64 sk, .int .i64 sy, .slice a' f.length c'] 52)).alloc (.cells #[.int .i64 0, .int .i64 0, .bool false, .string ⟨#[]⟩, .int .i64 0, .int .i64 0, .int .i64 0] 41) = W) := hW.symm
  have hB : Below w.heap.size w W := by rw [hW]; exact three_new _ _ _
  have A0 : HdS W w.heap.size 0 ⟨he, hp, ho, hn, hv⟩ ∧ RpB W (w.heap.size + 1) e hl l v o p so st sv (.slice a ps.length c) sx sk sy (.slice a' f.length c') ∧ W.heap[w.heap.size + 2]? = some (.cells #[.int .i64 0, .int .i64 0, .bool false, .string ⟨#[]⟩, .int .i64 0, .int .i64 0, .int .i64 0] 41) := by rw [hW]; exact see_boxes w he hp ho hn hv e hl l v o p so st sv _ sx sk sy _
  have HK : Hid (∀ w', Below W.heap.size W w' → HdS w' w.heap.size 0 ⟨he, hp, ho, hn, hv⟩ ∧ RpB w' (w.heap.size + 1) e hl l v o p so st sv (.slice a ps.length c) sx sk sy (.slice a' f.length c') ∧ w'.heap[w.heap.size + 2]? = some (.cells #[.int .i64 0, .int .i64 0, .bool false, .string ⟨#[]⟩, .int .i64 0, .int .i64 0, .int .i64 0] 41)) := fun w' hb => see_below A0 hb
  have hF := fun w => implHeadFault_any he hp ho hn hv w
  have hL := fun w => implLabelFault_any s w hls
  have hRf := fun w' (hb : Below W.heap.size W w') => implReplyFault_any e hl l v o p so st sv _ ps sx sk sy _ f w' (hp0.below (below_after_of hB hb)) (hv0.below (below_after_of hB hb)) (by omega) (by omega) hs0
  have hOr := fun u w hu => cmpOr3 (hdC he hp ho hn hv) (labelP s) (rpC e hl l v o p st sv (sdC so st sv ps.length (tlZ sx sk sy f))) u w hu
  have hTr := fun w => treeFor_f so w
  have hRo := fun w => rootF_any so hp w
  have hTk := fun w' (hb : Below W.heap.size W w') => takenF_any he hp ho hn hv (keyI s) so st sv _ sx sk sy _ ps f w' (hp0.below (below_after_of hB hb)) (hv0.below (below_after_of hB hb))
  rw [h0, h2, h3] at hOr
  rw [if_pos rfl, if_pos rfl] at hOr
  have h2k := h2
  rw [h0] at hF
  rw [h2] at hL
  rw [h3] at hRf
  clear h0 h2 h3
  have HT13 : Hid ((trF1 so = 85 ∧ trF3 so = 87) ∨ (trF1 so = 88 ∧ trF3 so = 90)) := trF_two so
  generalize trF1 so = t1 at *
  generalize trF2 so = t2 at *
  generalize trF3 so = t3 at *
  have h6 : (e != he) = true := by simpa using h5
  clear h5 hTk hRo h2k HT13
  generalize ps.length = pn at *
  generalize f.length = fn at *
  unfold hdV rpV at *
  have hbr := Below.refl W.heap.size W
  have HBW : Hid (Below w.heap.size w W) := hB
  have HL := see_cells A0
  have HKC : Hid (∀ w', Below W.heap.size W w' → (w'.cell? ⟨w.heap.size, 0, none⟩ = some (.int .i64 he) ∧ w'.cell? ⟨w.heap.size, 1, none⟩ = some (.int .i64 hp) ∧ w'.cell? ⟨w.heap.size, 2, none⟩ = some (.int .i64 ho) ∧ w'.cell? ⟨w.heap.size, 3, none⟩ = some (.int .i64 hn) ∧ w'.cell? ⟨w.heap.size, 4, none⟩ = some (.int .i64 hv)) ∧ (w'.cell? ⟨w.heap.size + 1, 0, none⟩ = some (.int .i64 e) ∧ w'.cell? ⟨w.heap.size + 1, 1, none⟩ = some (.bool hl) ∧ w'.cell? ⟨w.heap.size + 1, 2, none⟩ = some (.string l) ∧ w'.cell? ⟨w.heap.size + 1, 3, none⟩ = some (.int .i64 v) ∧ w'.cell? ⟨w.heap.size + 1, 4, none⟩ = some (.int .i64 o) ∧ w'.cell? ⟨w.heap.size + 1, 5, none⟩ = some (.int .i64 p) ∧ w'.cell? ⟨w.heap.size + 1, 6, none⟩ = some (.bool so) ∧ w'.cell? ⟨w.heap.size + 1, 7, none⟩ = some (.bool st) ∧ w'.cell? ⟨w.heap.size + 1, 8, none⟩ = some (.int .i64 sv) ∧ w'.cell? ⟨w.heap.size + 1, 9, none⟩ = some (.slice a pn c) ∧ w'.cell? ⟨w.heap.size + 1, 10, none⟩ = some (.bool sx) ∧ w'.cell? ⟨w.heap.size + 1, 11, none⟩ = some (.int .i64 sk) ∧ w'.cell? ⟨w.heap.size + 1, 12, none⟩ = some (.int .i64 sy) ∧ w'.cell? ⟨w.heap.size + 1, 13, none⟩ = some (.slice a' fn c'))) := fun w' hb => see_cells (see_below A0 hb)
  clear hW hp0 hv0 A0 hB
  go_enter Tryz.func11, Tryz.ntmps11
  go_wp2_with fail
  rw [HW.out]
  go_region_held3 (fun w' => (w'.cell? ⟨w.heap.size, 0, none⟩ = some (.int .i64 he) ∧ w'.cell? ⟨w.heap.size, 1, none⟩ = some (.int .i64 hp) ∧ w'.cell? ⟨w.heap.size, 2, none⟩ = some (.int .i64 ho) ∧ w'.cell? ⟨w.heap.size, 3, none⟩ = some (.int .i64 hn) ∧ w'.cell? ⟨w.heap.size, 4, none⟩ = some (.int .i64 hv)) ∧ (w'.cell? ⟨w.heap.size + 1, 0, none⟩ = some (.int .i64 e) ∧ w'.cell? ⟨w.heap.size + 1, 1, none⟩ = some (.bool hl) ∧ w'.cell? ⟨w.heap.size + 1, 2, none⟩ = some (.string l) ∧ w'.cell? ⟨w.heap.size + 1, 3, none⟩ = some (.int .i64 v) ∧ w'.cell? ⟨w.heap.size + 1, 4, none⟩ = some (.int .i64 o) ∧ w'.cell? ⟨w.heap.size + 1, 5, none⟩ = some (.int .i64 p) ∧ w'.cell? ⟨w.heap.size + 1, 6, none⟩ = some (.bool so) ∧ w'.cell? ⟨w.heap.size + 1, 7, none⟩ = some (.bool st) ∧ w'.cell? ⟨w.heap.size + 1, 8, none⟩ = some (.int .i64 sv) ∧ w'.cell? ⟨w.heap.size + 1, 9, none⟩ = some (.slice a pn c) ∧ w'.cell? ⟨w.heap.size + 1, 10, none⟩ = some (.bool sx) ∧ w'.cell? ⟨w.heap.size + 1, 11, none⟩ = some (.int .i64 sk) ∧ w'.cell? ⟨w.heap.size + 1, 12, none⟩ = some (.int .i64 sy) ∧ w'.cell? ⟨w.heap.size + 1, 13, none⟩ = some (.slice a' fn c')))
    (first | with_reducible exact HL | with_reducible exact HKC.out _ hbr | with_reducible exact HKC.out _ hbr.drew | with_reducible exact HKC.out _ (hbr.alloc hbr.size _))
    (first
      | (go_at_call 42; refine (hF _).mono ?_; rintro x w1 ⟨rfl, hb1⟩; have hbr : Below W.heap.size W w1 := (by first | exact below_after_of hbr hb1 | exact below_after_of hbr.drew hb1))
      | (go_at_call 43; refine (hL _).mono ?_; rintro x w2 ⟨rfl, hb2⟩; have hbr : Below W.heap.size W w2 := (by first | exact below_after_of hbr hb2 | exact below_after_of hbr.drew hb2))
      | (go_at_call 44; refine (hRf _ (by first | exact hbr | exact hbr.drew)).mono ?_; rintro x w3 ⟨rfl, hb3⟩; have hbr : Below W.heap.size W w3 := (by first | exact below_after_of hbr hb3 | exact below_after_of hbr.drew hb3))
      | (go_at_call 41; refine (hOr _ _ (three_intsS rfl)).mono ?_; rintro x w5 ⟨rfl, hw5⟩; have hbr : Below W.heap.size W w5 := (by rw [hw5]; exact hbr.alloc hbr.size _); clear hw5))
  clear hF hL hRf hOr HL HKC
  obtain ⟨k0, k1, k2, k3, k4, k5, k6, k7, k8, k9, k10, k11, k12, k13⟩ := (HK.out _ hbr).2.1.cells
  go_wp2_with fail
  refine (hTr _).mono ?_
  rintro x w6 ⟨rfl, hb6⟩
  have hC6 := below_after_of hbr hb6
  clear k0 k1 k2 k3 k4 k5 k6 k7 k8 k9 k10 k11 k12 k13 hTr hb6 hbr
  obtain ⟨W7, hW7⟩ : ∃ W7, W7 = w6.alloc (.cells #[.func (.func t1) #[] #[], .func (.func t2) #[] #[], .func (.func t3) #[] #[]] 104) := ⟨_, rfl⟩
  have HW7 : Hid (w6.alloc (.cells #[.func (.func t1) #[] #[], .func (.func t2) #[] #[], .func (.func t3) #[] #[]] 104) = W7) := hW7.symm
  have hC7 : Below W.heap.size W W7 := by rw [hW7]; exact hC6.alloc hC6.size _
  have O7 : W7.heap[w6.heap.size]? = some (.cells #[.func (.func t1) #[] #[], .func (.func t2) #[] #[], .func (.func t3) #[] #[]] 104) := by rw [hW7]; exact heap_alloc_new _ _
  obtain ⟨t0c, t1c, t2c⟩ := three_cellsF O7
  obtain ⟨k0, k1, k2, k3, k4, k5, k6, k7, k8, k9, k10, k11, k12, k13⟩ := (HK.out _ hC7).2.1.cells
  obtain ⟨d0, d1, d2, d3, d4⟩ := (HK.out _ hC7).1
  clear hW7
  go_upto_region 5 with fail
  rw [HW7.out]
  obtain ⟨c0, c1, c2, c3, c4, c5, c6, f0, f1, f2, f3, f4, f5, f6⟩ := seven_cells (HK.out _ hC7).2.2
  have hBB := below_after_of HBW.out hC7
  clear HK hC6 hC7 O7
  go_wp2
  exact bodyPost_ret (v := .agg #[.int .i64 10, .int .i64 0, .bool false, .string ⟨#[]⟩, .int .i64 0, .int .i64 0, .int .i64 0]) (by simp [results, Tryz.results11, go_sem, *]) rfl ⟨rfl, set7 hBB (by omega) _ _ _ _ _ _ _⟩
set_option maxRecDepth 100000 in
set_option maxHeartbeats 4000000 in
theorem isee_s1 (he hp ho hn hv : Int) (s : ByteArray) (hl : Bool) (l : ByteArray) (v o p : Int) (so st : Bool) (sv : Int) (sp : Value) (sx : Bool) (sk sy : Int) (sf : Value) (ps : List Int) (f : Prl) (w : World) (hp0 : Ints .i64 w sp ps) (hv0 : Prs w sf f) (hs0 : l.size ≤ 1048576) (hpl : ps.length ≤ 1048576) (hls : s.size ≤ 1048576) (hfl : f.length ≤ 1048576) (h0 : hdC he hp ho hn hv = 0) (h2 : labelP s = 0) (h3 : rpC he hl l v o p st sv (sdC so st sv ps.length (tlZ sx sk sy f)) = 0) (h4 : rootB so hp = false) :
    Calls Tryz.prog 11 #[hdV he hp ho hn hv, .string s, rpV he hl l v o p so st sv sp sx sk sy sf] w fun x w' => x = .returned (.agg #[.int .i64 10, .int .i64 0, .bool false, .string ⟨#[]⟩, .int .i64 0, .int .i64 0, .int .i64 0]) ∧ Below w.heap.size w w' := by
  obtain ⟨a, c, rfl⟩ := hp0.shape
  obtain ⟨a', c', rfl⟩ := hv0.shape
  obtain ⟨W, hW⟩ : ∃ W, W = ((w.alloc (.cells #[.int .i64 he, .int .i64 hp, .int .i64 ho, .int .i64 hn, .int .i64 hv] 43)).alloc (.cells #[.int .i64 he, .bool hl, .string l, .int .i64 v, .int .i64 o, .int .i64 p, .bool so, .bool st, .int .i64 sv, .slice a ps.length c, .bool sx, .int .i64 sk, .int .i64 sy, .slice a' f.length c'] 52)).alloc (.cells #[.int .i64 0, .int .i64 0, .bool false, .string ⟨#[]⟩, .int .i64 0, .int .i64 0, .int .i64 0] 41) := ⟨_, rfl⟩
  have HW : Hid (((w.alloc (.cells #[.int .i64 he, .int .i64 hp, .int .i64 ho, .int .i64 hn, .int .i64 hv] 43)).alloc (.cells #[.int .i64 he, .bool hl, .string l, .int .i64 v, .int .i64 o, .int .i64 p, .bool so, .bool st, .int .i64 sv, .slice a ps.length c, .bool sx, .int .i64 sk, .int .i64 sy, .slice a' f.length c'] 52)).alloc (.cells #[.int .i64 0, .int .i64 0, .bool false, .string ⟨#[]⟩, .int .i64 0, .int .i64 0, .int .i64 0] 41) = W) := hW.symm
  have hB : Below w.heap.size w W := by rw [hW]; exact three_new _ _ _
  have A0 : HdS W w.heap.size 0 ⟨he, hp, ho, hn, hv⟩ ∧ RpB W (w.heap.size + 1) he hl l v o p so st sv (.slice a ps.length c) sx sk sy (.slice a' f.length c') ∧ W.heap[w.heap.size + 2]? = some (.cells #[.int .i64 0, .int .i64 0, .bool false, .string ⟨#[]⟩, .int .i64 0, .int .i64 0, .int .i64 0] 41) := by rw [hW]; exact see_boxes w he hp ho hn hv he hl l v o p so st sv _ sx sk sy _
  have HK : Hid (∀ w', Below W.heap.size W w' → HdS w' w.heap.size 0 ⟨he, hp, ho, hn, hv⟩ ∧ RpB w' (w.heap.size + 1) he hl l v o p so st sv (.slice a ps.length c) sx sk sy (.slice a' f.length c') ∧ w'.heap[w.heap.size + 2]? = some (.cells #[.int .i64 0, .int .i64 0, .bool false, .string ⟨#[]⟩, .int .i64 0, .int .i64 0, .int .i64 0] 41)) := fun w' hb => see_below A0 hb
  have hF := fun w => implHeadFault_any he hp ho hn hv w
  have hL := fun w => implLabelFault_any s w hls
  have hRf := fun w' (hb : Below W.heap.size W w') => implReplyFault_any he hl l v o p so st sv _ ps sx sk sy _ f w' (hp0.below (below_after_of hB hb)) (hv0.below (below_after_of hB hb)) (by omega) (by omega) hs0
  have hOr := fun u w hu => cmpOr3 (hdC he hp ho hn hv) (labelP s) (rpC he hl l v o p st sv (sdC so st sv ps.length (tlZ sx sk sy f))) u w hu
  have hTr := fun w => treeFor_f so w
  have hRo := fun w => rootF_any so hp w
  have hTk := fun w' (hb : Below W.heap.size W w') => takenF_any he hp ho hn hv (keyI s) so st sv _ sx sk sy _ ps f w' (hp0.below (below_after_of hB hb)) (hv0.below (below_after_of hB hb))
  rw [h0, h2, h3] at hOr
  rw [if_pos rfl, if_pos rfl] at hOr
  have h2k := h2
  rw [h0] at hF
  rw [h2] at hL
  rw [h3] at hRf
  clear h0 h2 h3
  have HT13 : Hid ((trF1 so = 85 ∧ trF3 so = 87) ∨ (trF1 so = 88 ∧ trF3 so = 90)) := trF_two so
  generalize trF1 so = t1 at *
  generalize trF2 so = t2 at *
  generalize trF3 so = t3 at *
  rw [h4] at hRo
  have h6 : (he != he) = false := by simp
  clear h4 hTk h2k
  generalize ps.length = pn at *
  generalize f.length = fn at *
  unfold hdV rpV at *
  have hbr := Below.refl W.heap.size W
  have HBW : Hid (Below w.heap.size w W) := hB
  have HL := see_cells A0
  have HKC : Hid (∀ w', Below W.heap.size W w' → (w'.cell? ⟨w.heap.size, 0, none⟩ = some (.int .i64 he) ∧ w'.cell? ⟨w.heap.size, 1, none⟩ = some (.int .i64 hp) ∧ w'.cell? ⟨w.heap.size, 2, none⟩ = some (.int .i64 ho) ∧ w'.cell? ⟨w.heap.size, 3, none⟩ = some (.int .i64 hn) ∧ w'.cell? ⟨w.heap.size, 4, none⟩ = some (.int .i64 hv)) ∧ (w'.cell? ⟨w.heap.size + 1, 0, none⟩ = some (.int .i64 he) ∧ w'.cell? ⟨w.heap.size + 1, 1, none⟩ = some (.bool hl) ∧ w'.cell? ⟨w.heap.size + 1, 2, none⟩ = some (.string l) ∧ w'.cell? ⟨w.heap.size + 1, 3, none⟩ = some (.int .i64 v) ∧ w'.cell? ⟨w.heap.size + 1, 4, none⟩ = some (.int .i64 o) ∧ w'.cell? ⟨w.heap.size + 1, 5, none⟩ = some (.int .i64 p) ∧ w'.cell? ⟨w.heap.size + 1, 6, none⟩ = some (.bool so) ∧ w'.cell? ⟨w.heap.size + 1, 7, none⟩ = some (.bool st) ∧ w'.cell? ⟨w.heap.size + 1, 8, none⟩ = some (.int .i64 sv) ∧ w'.cell? ⟨w.heap.size + 1, 9, none⟩ = some (.slice a pn c) ∧ w'.cell? ⟨w.heap.size + 1, 10, none⟩ = some (.bool sx) ∧ w'.cell? ⟨w.heap.size + 1, 11, none⟩ = some (.int .i64 sk) ∧ w'.cell? ⟨w.heap.size + 1, 12, none⟩ = some (.int .i64 sy) ∧ w'.cell? ⟨w.heap.size + 1, 13, none⟩ = some (.slice a' fn c'))) := fun w' hb => see_cells (see_below A0 hb)
  clear hW hp0 hv0 A0 hB
  go_enter Tryz.func11, Tryz.ntmps11
  go_wp2_with fail
  rw [HW.out]
  go_region_held3 (fun w' => (w'.cell? ⟨w.heap.size, 0, none⟩ = some (.int .i64 he) ∧ w'.cell? ⟨w.heap.size, 1, none⟩ = some (.int .i64 hp) ∧ w'.cell? ⟨w.heap.size, 2, none⟩ = some (.int .i64 ho) ∧ w'.cell? ⟨w.heap.size, 3, none⟩ = some (.int .i64 hn) ∧ w'.cell? ⟨w.heap.size, 4, none⟩ = some (.int .i64 hv)) ∧ (w'.cell? ⟨w.heap.size + 1, 0, none⟩ = some (.int .i64 he) ∧ w'.cell? ⟨w.heap.size + 1, 1, none⟩ = some (.bool hl) ∧ w'.cell? ⟨w.heap.size + 1, 2, none⟩ = some (.string l) ∧ w'.cell? ⟨w.heap.size + 1, 3, none⟩ = some (.int .i64 v) ∧ w'.cell? ⟨w.heap.size + 1, 4, none⟩ = some (.int .i64 o) ∧ w'.cell? ⟨w.heap.size + 1, 5, none⟩ = some (.int .i64 p) ∧ w'.cell? ⟨w.heap.size + 1, 6, none⟩ = some (.bool so) ∧ w'.cell? ⟨w.heap.size + 1, 7, none⟩ = some (.bool st) ∧ w'.cell? ⟨w.heap.size + 1, 8, none⟩ = some (.int .i64 sv) ∧ w'.cell? ⟨w.heap.size + 1, 9, none⟩ = some (.slice a pn c) ∧ w'.cell? ⟨w.heap.size + 1, 10, none⟩ = some (.bool sx) ∧ w'.cell? ⟨w.heap.size + 1, 11, none⟩ = some (.int .i64 sk) ∧ w'.cell? ⟨w.heap.size + 1, 12, none⟩ = some (.int .i64 sy) ∧ w'.cell? ⟨w.heap.size + 1, 13, none⟩ = some (.slice a' fn c')))
    (first | with_reducible exact HL | with_reducible exact HKC.out _ hbr | with_reducible exact HKC.out _ hbr.drew | with_reducible exact HKC.out _ (hbr.alloc hbr.size _))
    (first
      | (go_at_call 42; refine (hF _).mono ?_; rintro x w1 ⟨rfl, hb1⟩; have hbr : Below W.heap.size W w1 := (by first | exact below_after_of hbr hb1 | exact below_after_of hbr.drew hb1))
      | (go_at_call 43; refine (hL _).mono ?_; rintro x w2 ⟨rfl, hb2⟩; have hbr : Below W.heap.size W w2 := (by first | exact below_after_of hbr hb2 | exact below_after_of hbr.drew hb2))
      | (go_at_call 44; refine (hRf _ (by first | exact hbr | exact hbr.drew)).mono ?_; rintro x w3 ⟨rfl, hb3⟩; have hbr : Below W.heap.size W w3 := (by first | exact below_after_of hbr hb3 | exact below_after_of hbr.drew hb3))
      | (go_at_call 41; refine (hOr _ _ (three_intsS rfl)).mono ?_; rintro x w5 ⟨rfl, hw5⟩; have hbr : Below W.heap.size W w5 := (by rw [hw5]; exact hbr.alloc hbr.size _); clear hw5))
  clear hF hL hRf hOr HL HKC
  obtain ⟨k0, k1, k2, k3, k4, k5, k6, k7, k8, k9, k10, k11, k12, k13⟩ := (HK.out _ hbr).2.1.cells
  go_wp2_with fail
  refine (hTr _).mono ?_
  rintro x w6 ⟨rfl, hb6⟩
  have hC6 := below_after_of hbr hb6
  clear k0 k1 k2 k3 k4 k5 k6 k7 k8 k9 k10 k11 k12 k13 hTr hb6 hbr
  obtain ⟨W7, hW7⟩ : ∃ W7, W7 = w6.alloc (.cells #[.func (.func t1) #[] #[], .func (.func t2) #[] #[], .func (.func t3) #[] #[]] 104) := ⟨_, rfl⟩
  have HW7 : Hid (w6.alloc (.cells #[.func (.func t1) #[] #[], .func (.func t2) #[] #[], .func (.func t3) #[] #[]] 104) = W7) := hW7.symm
  have hC7 : Below W.heap.size W W7 := by rw [hW7]; exact hC6.alloc hC6.size _
  have O7 : W7.heap[w6.heap.size]? = some (.cells #[.func (.func t1) #[] #[], .func (.func t2) #[] #[], .func (.func t3) #[] #[]] 104) := by rw [hW7]; exact heap_alloc_new _ _
  obtain ⟨t0c, t1c, t2c⟩ := three_cellsF O7
  obtain ⟨k0, k1, k2, k3, k4, k5, k6, k7, k8, k9, k10, k11, k12, k13⟩ := (HK.out _ hC7).2.1.cells
  obtain ⟨d0, d1, d2, d3, d4⟩ := (HK.out _ hC7).1
  clear hW7
  go_upto_region 5 with fail
  rw [HW7.out]
  rcases HT13.out with ⟨rfl, rfl⟩ | ⟨rfl, rfl⟩
  all_goals
    go_wp2_with fail
    refine (hRo _).mono ?_
    rintro x wq ⟨rfl, hwq⟩
    rw [hwq]
    clear hwq
    obtain ⟨c0, c1, c2, c3, c4, c5, c6, f0, f1, f2, f3, f4, f5, f6⟩ := seven_cells (HK.out _ hC7).2.2
    have hBB := below_after_of HBW.out hC7
    clear HK hC6 hC7 O7 wq
    go_wp2
    exact bodyPost_ret (v := .agg #[.int .i64 10, .int .i64 0, .bool false, .string ⟨#[]⟩, .int .i64 0, .int .i64 0, .int .i64 0]) (by simp [results, Tryz.results11, go_sem, *]) rfl ⟨rfl, set7 hBB (by omega) _ _ _ _ _ _ _⟩
theorem recOk_label {l : ByteArray} {v o p : Int} (h : recC l v o p = 0) : labelP l = 0 := (recOk h).lab
set_option maxRecDepth 100000 in
set_option maxHeartbeats 4000000 in
theorem isee_f (he hp ho hn hv : Int) (s : ByteArray) (l : ByteArray) (v o p : Int) (so st : Bool) (sv : Int) (sp : Value) (sx : Bool) (sk sy : Int) (sf : Value) (ps : List Int) (f : Prl) (w : World) (hp0 : Ints .i64 w sp ps) (hv0 : Prs w sf f) (hs0 : l.size ≤ 1048576) (hpl : ps.length ≤ 1048576) (hls : s.size ≤ 1048576) (hfl : f.length ≤ 1048576) (h0 : hdC he hp ho hn hv = 0) (h2 : labelP s = 0) (h3 : rpC he false l v o p st sv (sdC so st sv ps.length (tlZ sx sk sy f)) = 0) (h4 : rootB so hp = true) :
    Calls Tryz.prog 11 #[hdV he hp ho hn hv, .string s, rpV he false l v o p so st sv sp sx sk sy sf] w fun x w' => x = .returned (if (!otB false l s && tkB so st (keyI s) sv ps sx sk sy f (rootV so ho hn)) = true then ansV 0 (keyI s) (seO false l v o p s) else .agg #[.int .i64 9, .int .i64 0, .bool false, .string ⟨#[]⟩, .int .i64 0, .int .i64 0, .int .i64 0]) ∧ Below w.heap.size w w' := by
  obtain ⟨a, c, rfl⟩ := hp0.shape
  obtain ⟨a', c', rfl⟩ := hv0.shape
  obtain ⟨W, hW⟩ : ∃ W, W = ((w.alloc (.cells #[.int .i64 he, .int .i64 hp, .int .i64 ho, .int .i64 hn, .int .i64 hv] 43)).alloc (.cells #[.int .i64 he, .bool false, .string l, .int .i64 v, .int .i64 o, .int .i64 p, .bool so, .bool st, .int .i64 sv, .slice a ps.length c, .bool sx, .int .i64 sk, .int .i64 sy, .slice a' f.length c'] 52)).alloc (.cells #[.int .i64 0, .int .i64 0, .bool false, .string ⟨#[]⟩, .int .i64 0, .int .i64 0, .int .i64 0] 41) := ⟨_, rfl⟩
  have HW : Hid (((w.alloc (.cells #[.int .i64 he, .int .i64 hp, .int .i64 ho, .int .i64 hn, .int .i64 hv] 43)).alloc (.cells #[.int .i64 he, .bool false, .string l, .int .i64 v, .int .i64 o, .int .i64 p, .bool so, .bool st, .int .i64 sv, .slice a ps.length c, .bool sx, .int .i64 sk, .int .i64 sy, .slice a' f.length c'] 52)).alloc (.cells #[.int .i64 0, .int .i64 0, .bool false, .string ⟨#[]⟩, .int .i64 0, .int .i64 0, .int .i64 0] 41) = W) := hW.symm
  have hB : Below w.heap.size w W := by rw [hW]; exact three_new _ _ _
  have A0 : HdS W w.heap.size 0 ⟨he, hp, ho, hn, hv⟩ ∧ RpB W (w.heap.size + 1) he false l v o p so st sv (.slice a ps.length c) sx sk sy (.slice a' f.length c') ∧ W.heap[w.heap.size + 2]? = some (.cells #[.int .i64 0, .int .i64 0, .bool false, .string ⟨#[]⟩, .int .i64 0, .int .i64 0, .int .i64 0] 41) := by rw [hW]; exact see_boxes w he hp ho hn hv he false l v o p so st sv _ sx sk sy _
  have HK : Hid (∀ w', Below W.heap.size W w' → HdS w' w.heap.size 0 ⟨he, hp, ho, hn, hv⟩ ∧ RpB w' (w.heap.size + 1) he false l v o p so st sv (.slice a ps.length c) sx sk sy (.slice a' f.length c') ∧ w'.heap[w.heap.size + 2]? = some (.cells #[.int .i64 0, .int .i64 0, .bool false, .string ⟨#[]⟩, .int .i64 0, .int .i64 0, .int .i64 0] 41)) := fun w' hb => see_below A0 hb
  have hF := fun w => implHeadFault_any he hp ho hn hv w
  have hL := fun w => implLabelFault_any s w hls
  have hRf := fun w' (hb : Below W.heap.size W w') => implReplyFault_any he false l v o p so st sv _ ps sx sk sy _ f w' (hp0.below (below_after_of hB hb)) (hv0.below (below_after_of hB hb)) (by omega) (by omega) hs0
  have hOr := fun u w hu => cmpOr3 (hdC he hp ho hn hv) (labelP s) (rpC he false l v o p st sv (sdC so st sv ps.length (tlZ sx sk sy f))) u w hu
  have hTr := fun w => treeFor_f so w
  have hRo := fun w => rootF_any so hp w
  have hTk := fun w' (hb : Below W.heap.size W w') => takenF_any he hp ho hn hv (keyI s) so st sv _ sx sk sy _ ps f w' (hp0.below (below_after_of hB hb)) (hv0.below (below_after_of hB hb))
  rw [h0, h2, h3] at hOr
  rw [if_pos rfl, if_pos rfl] at hOr
  have h2k := h2
  rw [h0] at hF
  rw [h2] at hL
  rw [h3] at hRf
  clear h0 h2 h3
  have HT13 : Hid ((trF1 so = 85 ∧ trF3 so = 87) ∨ (trF1 so = 88 ∧ trF3 so = 90)) := trF_two so
  generalize trF1 so = t1 at *
  generalize trF2 so = t2 at *
  generalize trF3 so = t3 at *
  rw [h4] at hRo
  have h6 : (he != he) = false := by simp
  have hKy := fun w => implKeyOf_any s w hls
  rw [keyV_ok h2k, h2k] at hKy
  have hf1 := field_IR1k
  have hAn := fun w => answerIn_any (keyI s) s he false l v o p so st sv a ps.length c sx sk sy a' f.length c' w hls h2k hs0
  unfold otB
  unfold ansV
  generalize seO false l v o p s = so' at *
  generalize so'.isSome = a0 at *
  generalize (so'.getD rcZ).l = a1 at *
  generalize (so'.getD rcZ).v = a2 at *
  generalize (so'.getD rcZ).o = a3 at *
  generalize (so'.getD rcZ).p = a4 at *
  generalize tkB so st (keyI s) sv ps sx sk sy f (rootV so ho hn) = tk at *
  generalize keyI s = ky at *
  clear h4 h2k
  generalize ps.length = pn at *
  generalize f.length = fn at *
  unfold hdV rpV at *
  have hbr := Below.refl W.heap.size W
  have HBW : Hid (Below w.heap.size w W) := hB
  have HL := see_cells A0
  have HKC : Hid (∀ w', Below W.heap.size W w' → (w'.cell? ⟨w.heap.size, 0, none⟩ = some (.int .i64 he) ∧ w'.cell? ⟨w.heap.size, 1, none⟩ = some (.int .i64 hp) ∧ w'.cell? ⟨w.heap.size, 2, none⟩ = some (.int .i64 ho) ∧ w'.cell? ⟨w.heap.size, 3, none⟩ = some (.int .i64 hn) ∧ w'.cell? ⟨w.heap.size, 4, none⟩ = some (.int .i64 hv)) ∧ (w'.cell? ⟨w.heap.size + 1, 0, none⟩ = some (.int .i64 he) ∧ w'.cell? ⟨w.heap.size + 1, 1, none⟩ = some (.bool false) ∧ w'.cell? ⟨w.heap.size + 1, 2, none⟩ = some (.string l) ∧ w'.cell? ⟨w.heap.size + 1, 3, none⟩ = some (.int .i64 v) ∧ w'.cell? ⟨w.heap.size + 1, 4, none⟩ = some (.int .i64 o) ∧ w'.cell? ⟨w.heap.size + 1, 5, none⟩ = some (.int .i64 p) ∧ w'.cell? ⟨w.heap.size + 1, 6, none⟩ = some (.bool so) ∧ w'.cell? ⟨w.heap.size + 1, 7, none⟩ = some (.bool st) ∧ w'.cell? ⟨w.heap.size + 1, 8, none⟩ = some (.int .i64 sv) ∧ w'.cell? ⟨w.heap.size + 1, 9, none⟩ = some (.slice a pn c) ∧ w'.cell? ⟨w.heap.size + 1, 10, none⟩ = some (.bool sx) ∧ w'.cell? ⟨w.heap.size + 1, 11, none⟩ = some (.int .i64 sk) ∧ w'.cell? ⟨w.heap.size + 1, 12, none⟩ = some (.int .i64 sy) ∧ w'.cell? ⟨w.heap.size + 1, 13, none⟩ = some (.slice a' fn c'))) := fun w' hb => see_cells (see_below A0 hb)
  clear hW hp0 hv0 A0 hB
  go_enter Tryz.func11, Tryz.ntmps11
  go_wp2_with fail
  rw [HW.out]
  go_region_held3 (fun w' => (w'.cell? ⟨w.heap.size, 0, none⟩ = some (.int .i64 he) ∧ w'.cell? ⟨w.heap.size, 1, none⟩ = some (.int .i64 hp) ∧ w'.cell? ⟨w.heap.size, 2, none⟩ = some (.int .i64 ho) ∧ w'.cell? ⟨w.heap.size, 3, none⟩ = some (.int .i64 hn) ∧ w'.cell? ⟨w.heap.size, 4, none⟩ = some (.int .i64 hv)) ∧ (w'.cell? ⟨w.heap.size + 1, 0, none⟩ = some (.int .i64 he) ∧ w'.cell? ⟨w.heap.size + 1, 1, none⟩ = some (.bool false) ∧ w'.cell? ⟨w.heap.size + 1, 2, none⟩ = some (.string l) ∧ w'.cell? ⟨w.heap.size + 1, 3, none⟩ = some (.int .i64 v) ∧ w'.cell? ⟨w.heap.size + 1, 4, none⟩ = some (.int .i64 o) ∧ w'.cell? ⟨w.heap.size + 1, 5, none⟩ = some (.int .i64 p) ∧ w'.cell? ⟨w.heap.size + 1, 6, none⟩ = some (.bool so) ∧ w'.cell? ⟨w.heap.size + 1, 7, none⟩ = some (.bool st) ∧ w'.cell? ⟨w.heap.size + 1, 8, none⟩ = some (.int .i64 sv) ∧ w'.cell? ⟨w.heap.size + 1, 9, none⟩ = some (.slice a pn c) ∧ w'.cell? ⟨w.heap.size + 1, 10, none⟩ = some (.bool sx) ∧ w'.cell? ⟨w.heap.size + 1, 11, none⟩ = some (.int .i64 sk) ∧ w'.cell? ⟨w.heap.size + 1, 12, none⟩ = some (.int .i64 sy) ∧ w'.cell? ⟨w.heap.size + 1, 13, none⟩ = some (.slice a' fn c')))
    (first | with_reducible exact HL | with_reducible exact HKC.out _ hbr | with_reducible exact HKC.out _ hbr.drew | with_reducible exact HKC.out _ (hbr.alloc hbr.size _))
    (first
      | (go_at_call 42; refine (hF _).mono ?_; rintro x w1 ⟨rfl, hb1⟩; have hbr : Below W.heap.size W w1 := (by first | exact below_after_of hbr hb1 | exact below_after_of hbr.drew hb1))
      | (go_at_call 43; refine (hL _).mono ?_; rintro x w2 ⟨rfl, hb2⟩; have hbr : Below W.heap.size W w2 := (by first | exact below_after_of hbr hb2 | exact below_after_of hbr.drew hb2))
      | (go_at_call 44; refine (hRf _ (by first | exact hbr | exact hbr.drew)).mono ?_; rintro x w3 ⟨rfl, hb3⟩; have hbr : Below W.heap.size W w3 := (by first | exact below_after_of hbr hb3 | exact below_after_of hbr.drew hb3))
      | (go_at_call 41; refine (hOr _ _ (three_intsS rfl)).mono ?_; rintro x w5 ⟨rfl, hw5⟩; have hbr : Below W.heap.size W w5 := (by rw [hw5]; exact hbr.alloc hbr.size _); clear hw5))
  clear hF hL hRf hOr HL HKC
  obtain ⟨k0, k1, k2, k3, k4, k5, k6, k7, k8, k9, k10, k11, k12, k13⟩ := (HK.out _ hbr).2.1.cells
  go_wp2_with fail
  refine (hTr _).mono ?_
  rintro x w6 ⟨rfl, hb6⟩
  have hC6 := below_after_of hbr hb6
  clear k0 k1 k2 k3 k4 k5 k6 k7 k8 k9 k10 k11 k12 k13 hTr hb6 hbr
  obtain ⟨W7, hW7⟩ : ∃ W7, W7 = w6.alloc (.cells #[.func (.func t1) #[] #[], .func (.func t2) #[] #[], .func (.func t3) #[] #[]] 104) := ⟨_, rfl⟩
  have HW7 : Hid (w6.alloc (.cells #[.func (.func t1) #[] #[], .func (.func t2) #[] #[], .func (.func t3) #[] #[]] 104) = W7) := hW7.symm
  have hC7 : Below W.heap.size W W7 := by rw [hW7]; exact hC6.alloc hC6.size _
  have O7 : W7.heap[w6.heap.size]? = some (.cells #[.func (.func t1) #[] #[], .func (.func t2) #[] #[], .func (.func t3) #[] #[]] 104) := by rw [hW7]; exact heap_alloc_new _ _
  obtain ⟨t0c, t1c, t2c⟩ := three_cellsF O7
  obtain ⟨k0, k1, k2, k3, k4, k5, k6, k7, k8, k9, k10, k11, k12, k13⟩ := (HK.out _ hC7).2.1.cells
  obtain ⟨d0, d1, d2, d3, d4⟩ := (HK.out _ hC7).1
  clear hW7
  go_upto_region 5 with fail
  rw [HW7.out]
  rcases HT13.out with ⟨rfl, rfl⟩ | ⟨rfl, rfl⟩
  all_goals
    go_wp2_with fail
    refine (hRo _).mono ?_
    rintro x wq ⟨rfl, hwq⟩
    rw [hwq]
    clear hwq wq hRo
    go_wp2_with fail
    refine (hKy _).mono ?_
    rintro x w8 ⟨rfl, hb8⟩
    have hC8 := below_after_of hC7 hb8
    have O8 := (hb8.block _ (Array.getElem?_eq_some_iff.1 O7).1).trans O7
    clear k0 k1 k2 k3 k4 k5 k6 k7 k8 k9 k10 k11 k12 k13 d0 d1 d2 d3 d4 t0c t1c t2c hKy
    obtain ⟨t0c, t1c, t2c⟩ := three_cellsF O8
    obtain ⟨k0, k1, k2, k3, k4, k5, k6, k7, k8, k9, k10, k11, k12, k13⟩ := (HK.out _ hC8).2.1.cells
    obtain ⟨d0, d1, d2, d3, d4⟩ := (HK.out _ hC8).1
    go_wp2_with fail
    refine (hTk _ hC8).mono ?_
    rintro x w10 ⟨rfl, hb10⟩
    have hC10 := below_after_of hC8 hb10
    clear k0 k1 k2 k3 k4 k5 k6 k7 k8 k9 k10 k11 k12 k13 d0 d1 d2 d3 d4
    obtain ⟨k0, k1, k2, k3, k4, k5, k6, k7, k8, k9, k10, k11, k12, k13⟩ := (HK.out _ hC10).2.1.cells
    clear hTk hb10
    cases tk
    · obtain ⟨c0, c1, c2, c3, c4, c5, c6, f0, f1, f2, f3, f4, f5, f6⟩ := seven_cells (HK.out _ hC10).2.2
      have hBB := below_after_of HBW.out hC10
      clear HK hC6 hC7 hC8 hC10 O7 O8 hAn
      go_wp2
      exact bodyPost_ret (v := .agg #[.int .i64 9, .int .i64 0, .bool false, .string ⟨#[]⟩, .int .i64 0, .int .i64 0, .int .i64 0]) (by simp [results, Tryz.results11, go_sem, *]) rfl ⟨rfl, set7 hBB (by omega) _ _ _ _ _ _ _⟩
    · go_wp2_with fail
      refine (hAn _).mono ?_
      rintro x w11 ⟨rfl, hb11⟩
      have hC11 := below_after_of hC10 hb11
      obtain ⟨c0, c1, c2, c3, c4, c5, c6, f0, f1, f2, f3, f4, f5, f6⟩ := seven_cells (HK.out _ hC11).2.2
      have hBB := below_after_of HBW.out hC11
      clear HK hC6 hC7 hC8 hC10 hC11 O7 O8 hAn hb11 k0 k1 k2 k3 k4 k5 k6 k7 k8 k9 k10 k11 k12 k13
      go_wp2
      exact bodyPost_ret (v := .agg #[.int .i64 0, .int .i64 ky, .bool a0, .string a1, .int .i64 a2, .int .i64 a3, .int .i64 a4]) (by simp [results, Tryz.results11, go_sem, *]) rfl ⟨rfl, set7 hBB (by omega) _ _ _ _ _ _ _⟩
end U
end Go.Proofs.YtdbbmclobmigdaaGreat

/- A reply that is seen: what the program answers where a record is held; at every argument. -/
namespace Go.Proofs.YtdbbmclobmigdaaGreat
open Go.RowKit
namespace U
attribute [local go_sem] run_store_fn
set_option maxRecDepth 100000 in
set_option maxHeartbeats 4000000 in
theorem isee_t (he hp ho hn hv : Int) (s : ByteArray) (l : ByteArray) (v o p : Int) (so st : Bool) (sv : Int) (sp : Value) (sx : Bool) (sk sy : Int) (sf : Value) (ps : List Int) (f : Prl) (w : World) (hp0 : Ints .i64 w sp ps) (hv0 : Prs w sf f) (hs0 : l.size ≤ 1048576) (hpl : ps.length ≤ 1048576) (hls : s.size ≤ 1048576) (hfl : f.length ≤ 1048576) (h0 : hdC he hp ho hn hv = 0) (h2 : labelP s = 0) (h3 : rpC he true l v o p st sv (sdC so st sv ps.length (tlZ sx sk sy f)) = 0) (h4 : rootB so hp = true) :
    Calls Tryz.prog 11 #[hdV he hp ho hn hv, .string s, rpV he true l v o p so st sv sp sx sk sy sf] w fun x w' => x = .returned (if (!otB true l s && tkB so st (keyI s) sv ps sx sk sy f (rootV so ho hn)) = true then ansV 0 (keyI s) (seO true l v o p s) else .agg #[.int .i64 9, .int .i64 0, .bool false, .string ⟨#[]⟩, .int .i64 0, .int .i64 0, .int .i64 0]) ∧ Below w.heap.size w w' := by
  obtain ⟨a, c, rfl⟩ := hp0.shape
  obtain ⟨a', c', rfl⟩ := hv0.shape
  obtain ⟨W, hW⟩ : ∃ W, W = ((w.alloc (.cells #[.int .i64 he, .int .i64 hp, .int .i64 ho, .int .i64 hn, .int .i64 hv] 43)).alloc (.cells #[.int .i64 he, .bool true, .string l, .int .i64 v, .int .i64 o, .int .i64 p, .bool so, .bool st, .int .i64 sv, .slice a ps.length c, .bool sx, .int .i64 sk, .int .i64 sy, .slice a' f.length c'] 52)).alloc (.cells #[.int .i64 0, .int .i64 0, .bool false, .string ⟨#[]⟩, .int .i64 0, .int .i64 0, .int .i64 0] 41) := ⟨_, rfl⟩
  have HW : Hid (((w.alloc (.cells #[.int .i64 he, .int .i64 hp, .int .i64 ho, .int .i64 hn, .int .i64 hv] 43)).alloc (.cells #[.int .i64 he, .bool true, .string l, .int .i64 v, .int .i64 o, .int .i64 p, .bool so, .bool st, .int .i64 sv, .slice a ps.length c, .bool sx, .int .i64 sk, .int .i64 sy, .slice a' f.length c'] 52)).alloc (.cells #[.int .i64 0, .int .i64 0, .bool false, .string ⟨#[]⟩, .int .i64 0, .int .i64 0, .int .i64 0] 41) = W) := hW.symm
  have hB : Below w.heap.size w W := by rw [hW]; exact three_new _ _ _
  have A0 : HdS W w.heap.size 0 ⟨he, hp, ho, hn, hv⟩ ∧ RpB W (w.heap.size + 1) he true l v o p so st sv (.slice a ps.length c) sx sk sy (.slice a' f.length c') ∧ W.heap[w.heap.size + 2]? = some (.cells #[.int .i64 0, .int .i64 0, .bool false, .string ⟨#[]⟩, .int .i64 0, .int .i64 0, .int .i64 0] 41) := by rw [hW]; exact see_boxes w he hp ho hn hv he true l v o p so st sv _ sx sk sy _
  have HK : Hid (∀ w', Below W.heap.size W w' → HdS w' w.heap.size 0 ⟨he, hp, ho, hn, hv⟩ ∧ RpB w' (w.heap.size + 1) he true l v o p so st sv (.slice a ps.length c) sx sk sy (.slice a' f.length c') ∧ w'.heap[w.heap.size + 2]? = some (.cells #[.int .i64 0, .int .i64 0, .bool false, .string ⟨#[]⟩, .int .i64 0, .int .i64 0, .int .i64 0] 41)) := fun w' hb => see_below A0 hb
  have hF := fun w => implHeadFault_any he hp ho hn hv w
  have hL := fun w => implLabelFault_any s w hls
  have hRf := fun w' (hb : Below W.heap.size W w') => implReplyFault_any he true l v o p so st sv _ ps sx sk sy _ f w' (hp0.below (below_after_of hB hb)) (hv0.below (below_after_of hB hb)) (by omega) (by omega) hs0
  have hOr := fun u w hu => cmpOr3 (hdC he hp ho hn hv) (labelP s) (rpC he true l v o p st sv (sdC so st sv ps.length (tlZ sx sk sy f))) u w hu
  have hTr := fun w => treeFor_f so w
  have hRo := fun w => rootF_any so hp w
  have hTk := fun w' (hb : Below W.heap.size W w') => takenF_any he hp ho hn hv (keyI s) so st sv _ sx sk sy _ ps f w' (hp0.below (below_after_of hB hb)) (hv0.below (below_after_of hB hb))
  have h3k := h3
  rw [h0, h2, h3] at hOr
  rw [if_pos rfl, if_pos rfl] at hOr
  have h2k := h2
  rw [h0] at hF
  rw [h2] at hL
  rw [h3] at hRf
  clear h0 h2 h3
  have HT13 : Hid ((trF1 so = 85 ∧ trF3 so = 87) ∨ (trF1 so = 88 ∧ trF3 so = 90)) := trF_two so
  generalize trF1 so = t1 at *
  generalize trF2 so = t2 at *
  generalize trF3 so = t3 at *
  rw [h4] at hRo
  have h6 : (he != he) = false := by simp
  have hKy := fun w => implKeyOf_any s w hls
  rw [keyV_ok h2k, h2k] at hKy
  have hf1 := field_IR1k
  have hAn := fun w => answerIn_any (keyI s) s he true l v o p so st sv a ps.length c sx sk sy a' f.length c' w hls h2k hs0
  have hRk := fun w => recordKey_any l v o p w (recOk_label (rpC_zero h3k rfl))
  unfold recV at hRk
  unfold otB
  unfold ansV
  generalize seO true l v o p s = so' at *
  generalize so'.isSome = a0 at *
  generalize (so'.getD rcZ).l = a1 at *
  generalize (so'.getD rcZ).v = a2 at *
  generalize (so'.getD rcZ).o = a3 at *
  generalize (so'.getD rcZ).p = a4 at *
  generalize tkB so st (keyI s) sv ps sx sk sy f (rootV so ho hn) = tk at *
  generalize keyI s = ky at *
  generalize keyI l = kl at *
  generalize hkk : (kl != ky) = kk at *
  clear h4 h2k
  generalize ps.length = pn at *
  generalize f.length = fn at *
  unfold hdV rpV at *
  have hbr := Below.refl W.heap.size W
  have HBW : Hid (Below w.heap.size w W) := hB
  have HL := see_cells A0
  have HKC : Hid (∀ w', Below W.heap.size W w' → (w'.cell? ⟨w.heap.size, 0, none⟩ = some (.int .i64 he) ∧ w'.cell? ⟨w.heap.size, 1, none⟩ = some (.int .i64 hp) ∧ w'.cell? ⟨w.heap.size, 2, none⟩ = some (.int .i64 ho) ∧ w'.cell? ⟨w.heap.size, 3, none⟩ = some (.int .i64 hn) ∧ w'.cell? ⟨w.heap.size, 4, none⟩ = some (.int .i64 hv)) ∧ (w'.cell? ⟨w.heap.size + 1, 0, none⟩ = some (.int .i64 he) ∧ w'.cell? ⟨w.heap.size + 1, 1, none⟩ = some (.bool true) ∧ w'.cell? ⟨w.heap.size + 1, 2, none⟩ = some (.string l) ∧ w'.cell? ⟨w.heap.size + 1, 3, none⟩ = some (.int .i64 v) ∧ w'.cell? ⟨w.heap.size + 1, 4, none⟩ = some (.int .i64 o) ∧ w'.cell? ⟨w.heap.size + 1, 5, none⟩ = some (.int .i64 p) ∧ w'.cell? ⟨w.heap.size + 1, 6, none⟩ = some (.bool so) ∧ w'.cell? ⟨w.heap.size + 1, 7, none⟩ = some (.bool st) ∧ w'.cell? ⟨w.heap.size + 1, 8, none⟩ = some (.int .i64 sv) ∧ w'.cell? ⟨w.heap.size + 1, 9, none⟩ = some (.slice a pn c) ∧ w'.cell? ⟨w.heap.size + 1, 10, none⟩ = some (.bool sx) ∧ w'.cell? ⟨w.heap.size + 1, 11, none⟩ = some (.int .i64 sk) ∧ w'.cell? ⟨w.heap.size + 1, 12, none⟩ = some (.int .i64 sy) ∧ w'.cell? ⟨w.heap.size + 1, 13, none⟩ = some (.slice a' fn c'))) := fun w' hb => see_cells (see_below A0 hb)
  clear hW hp0 hv0 A0 hB
  go_enter Tryz.func11, Tryz.ntmps11
  go_wp2_with fail
  rw [HW.out]
  go_region_held3 (fun w' => (w'.cell? ⟨w.heap.size, 0, none⟩ = some (.int .i64 he) ∧ w'.cell? ⟨w.heap.size, 1, none⟩ = some (.int .i64 hp) ∧ w'.cell? ⟨w.heap.size, 2, none⟩ = some (.int .i64 ho) ∧ w'.cell? ⟨w.heap.size, 3, none⟩ = some (.int .i64 hn) ∧ w'.cell? ⟨w.heap.size, 4, none⟩ = some (.int .i64 hv)) ∧ (w'.cell? ⟨w.heap.size + 1, 0, none⟩ = some (.int .i64 he) ∧ w'.cell? ⟨w.heap.size + 1, 1, none⟩ = some (.bool true) ∧ w'.cell? ⟨w.heap.size + 1, 2, none⟩ = some (.string l) ∧ w'.cell? ⟨w.heap.size + 1, 3, none⟩ = some (.int .i64 v) ∧ w'.cell? ⟨w.heap.size + 1, 4, none⟩ = some (.int .i64 o) ∧ w'.cell? ⟨w.heap.size + 1, 5, none⟩ = some (.int .i64 p) ∧ w'.cell? ⟨w.heap.size + 1, 6, none⟩ = some (.bool so) ∧ w'.cell? ⟨w.heap.size + 1, 7, none⟩ = some (.bool st) ∧ w'.cell? ⟨w.heap.size + 1, 8, none⟩ = some (.int .i64 sv) ∧ w'.cell? ⟨w.heap.size + 1, 9, none⟩ = some (.slice a pn c) ∧ w'.cell? ⟨w.heap.size + 1, 10, none⟩ = some (.bool sx) ∧ w'.cell? ⟨w.heap.size + 1, 11, none⟩ = some (.int .i64 sk) ∧ w'.cell? ⟨w.heap.size + 1, 12, none⟩ = some (.int .i64 sy) ∧ w'.cell? ⟨w.heap.size + 1, 13, none⟩ = some (.slice a' fn c')))
    (first | with_reducible exact HL | with_reducible exact HKC.out _ hbr | with_reducible exact HKC.out _ hbr.drew | with_reducible exact HKC.out _ (hbr.alloc hbr.size _))
    (first
      | (go_at_call 42; refine (hF _).mono ?_; rintro x w1 ⟨rfl, hb1⟩; have hbr : Below W.heap.size W w1 := (by first | exact below_after_of hbr hb1 | exact below_after_of hbr.drew hb1))
      | (go_at_call 43; refine (hL _).mono ?_; rintro x w2 ⟨rfl, hb2⟩; have hbr : Below W.heap.size W w2 := (by first | exact below_after_of hbr hb2 | exact below_after_of hbr.drew hb2))
      | (go_at_call 44; refine (hRf _ (by first | exact hbr | exact hbr.drew)).mono ?_; rintro x w3 ⟨rfl, hb3⟩; have hbr : Below W.heap.size W w3 := (by first | exact below_after_of hbr hb3 | exact below_after_of hbr.drew hb3))
      | (go_at_call 41; refine (hOr _ _ (three_intsS rfl)).mono ?_; rintro x w5 ⟨rfl, hw5⟩; have hbr : Below W.heap.size W w5 := (by rw [hw5]; exact hbr.alloc hbr.size _); clear hw5))
  clear hF hL hRf hOr HL HKC
  obtain ⟨k0, k1, k2, k3, k4, k5, k6, k7, k8, k9, k10, k11, k12, k13⟩ := (HK.out _ hbr).2.1.cells
  go_wp2_with fail
  refine (hTr _).mono ?_
  rintro x w6 ⟨rfl, hb6⟩
  have hC6 := below_after_of hbr hb6
  clear k0 k1 k2 k3 k4 k5 k6 k7 k8 k9 k10 k11 k12 k13 hTr hb6 hbr
  obtain ⟨W7, hW7⟩ : ∃ W7, W7 = w6.alloc (.cells #[.func (.func t1) #[] #[], .func (.func t2) #[] #[], .func (.func t3) #[] #[]] 104) := ⟨_, rfl⟩
  have HW7 : Hid (w6.alloc (.cells #[.func (.func t1) #[] #[], .func (.func t2) #[] #[], .func (.func t3) #[] #[]] 104) = W7) := hW7.symm
  have hC7 : Below W.heap.size W W7 := by rw [hW7]; exact hC6.alloc hC6.size _
  have O7 : W7.heap[w6.heap.size]? = some (.cells #[.func (.func t1) #[] #[], .func (.func t2) #[] #[], .func (.func t3) #[] #[]] 104) := by rw [hW7]; exact heap_alloc_new _ _
  obtain ⟨t0c, t1c, t2c⟩ := three_cellsF O7
  obtain ⟨k0, k1, k2, k3, k4, k5, k6, k7, k8, k9, k10, k11, k12, k13⟩ := (HK.out _ hC7).2.1.cells
  obtain ⟨d0, d1, d2, d3, d4⟩ := (HK.out _ hC7).1
  clear hW7
  go_upto_region 5 with fail
  rw [HW7.out]
  rcases HT13.out with ⟨rfl, rfl⟩ | ⟨rfl, rfl⟩
  all_goals
    go_wp2_with fail
    refine (hRo _).mono ?_
    rintro x wq ⟨rfl, hwq⟩
    rw [hwq]
    clear hwq wq hRo
    go_wp2_with fail
    refine (hKy _).mono ?_
    rintro x w8 ⟨rfl, hb8⟩
    have hC8 := below_after_of hC7 hb8
    have O8 := (hb8.block _ (Array.getElem?_eq_some_iff.1 O7).1).trans O7
    clear k0 k1 k2 k3 k4 k5 k6 k7 k8 k9 k10 k11 k12 k13 d0 d1 d2 d3 d4 t0c t1c t2c hKy
    obtain ⟨t0c, t1c, t2c⟩ := three_cellsF O8
    obtain ⟨k0, k1, k2, k3, k4, k5, k6, k7, k8, k9, k10, k11, k12, k13⟩ := (HK.out _ hC8).2.1.cells
    obtain ⟨d0, d1, d2, d3, d4⟩ := (HK.out _ hC8).1
    go_wp2_with fail
    refine (hRk _).mono ?_
    rintro x w9 ⟨rfl, hb9⟩
    have hC9 := below_after_of hC8 hb9
    have O9 := (hb9.block _ (Array.getElem?_eq_some_iff.1 O8).1).trans O8
    clear t0c t1c t2c hRk hb9
    obtain ⟨t0c, t1c, t2c⟩ := three_cellsF O9
    clear k0 k1 k2 k3 k4 k5 k6 k7 k8 k9 k10 k11 k12 k13 d0 d1 d2 d3 d4
    obtain ⟨k0, k1, k2, k3, k4, k5, k6, k7, k8, k9, k10, k11, k12, k13⟩ := (HK.out _ hC9).2.1.cells
    obtain ⟨d0, d1, d2, d3, d4⟩ := (HK.out _ hC9).1
    cases kk
    · go_wp2_with fail
      refine (hTk _ hC9).mono ?_
      rintro x w10 ⟨rfl, hb10⟩
      have hC10 := below_after_of hC9 hb10
      clear k0 k1 k2 k3 k4 k5 k6 k7 k8 k9 k10 k11 k12 k13 d0 d1 d2 d3 d4
      obtain ⟨k0, k1, k2, k3, k4, k5, k6, k7, k8, k9, k10, k11, k12, k13⟩ := (HK.out _ hC10).2.1.cells
      clear hTk hb10
      cases tk
      · obtain ⟨c0, c1, c2, c3, c4, c5, c6, f0, f1, f2, f3, f4, f5, f6⟩ := seven_cells (HK.out _ hC10).2.2
        have hBB := below_after_of HBW.out hC10
        clear HK hC6 hC7 hC8 hC10 O7 O8 O9 hC9 hAn
        go_wp2
        exact bodyPost_ret (v := .agg #[.int .i64 9, .int .i64 0, .bool false, .string ⟨#[]⟩, .int .i64 0, .int .i64 0, .int .i64 0]) (by simp [results, Tryz.results11, go_sem, *]) rfl ⟨rfl, set7 hBB (by omega) _ _ _ _ _ _ _⟩
      · go_wp2_with fail
        refine (hAn _).mono ?_
        rintro x w11 ⟨rfl, hb11⟩
        have hC11 := below_after_of hC10 hb11
        obtain ⟨c0, c1, c2, c3, c4, c5, c6, f0, f1, f2, f3, f4, f5, f6⟩ := seven_cells (HK.out _ hC11).2.2
        have hBB := below_after_of HBW.out hC11
        clear HK hC6 hC7 hC8 hC10 hC11 O7 O8 O9 hC9 hAn hb11 k0 k1 k2 k3 k4 k5 k6 k7 k8 k9 k10 k11 k12 k13
        go_wp2
        exact bodyPost_ret (v := .agg #[.int .i64 0, .int .i64 ky, .bool a0, .string a1, .int .i64 a2, .int .i64 a3, .int .i64 a4]) (by simp [results, Tryz.results11, go_sem, *]) rfl ⟨rfl, set7 hBB (by omega) _ _ _ _ _ _ _⟩
    · obtain ⟨c0, c1, c2, c3, c4, c5, c6, f0, f1, f2, f3, f4, f5, f6⟩ := seven_cells (HK.out _ hC9).2.2
      have hBB := below_after_of HBW.out hC9
      clear HK hC6 hC7 hC8 hC9 O7 O8 O9 hAn hTk k0 k1 k2 k3 k4 k5 k6 k7 k8 k9 k10 k11 k12 k13 d0 d1 d2 d3 d4
      go_wp2
      exact bodyPost_ret (v := .agg #[.int .i64 9, .int .i64 0, .bool false, .string ⟨#[]⟩, .int .i64 0, .int .i64 0, .int .i64 0]) (by simp [results, Tryz.results11, go_sem, *]) rfl ⟨rfl, set7 hBB (by omega) _ _ _ _ _ _ _⟩
theorem implSeeReply_any (he hp ho hn hv : Int) (s : ByteArray) (e : Int) (hl : Bool) (l : ByteArray) (v o p : Int) (so st : Bool) (sv : Int) (sp : Value) (sx : Bool) (sk sy : Int) (sf : Value) (ps : List Int) (f : Prl) (w : World) (hp0 : Ints .i64 w sp ps) (hv0 : Prs w sf f) (hs0 : l.size ≤ 1048576) (hpl : ps.length ≤ 1048576) (hls : s.size ≤ 1048576) (hfl : f.length ≤ 1048576) :
    Calls Tryz.prog 11 #[hdV he hp ho hn hv, .string s, rpV e hl l v o p so st sv sp sx sk sy sf] w fun x w' => x = .returned (seeVal he hp ho hn hv s e hl l v o p so st sv ps sx sk sy f) ∧ Below w.heap.size w w' := by
  unfold seeVal
  by_cases hq : (if hdC he hp ho hn hv = 0 then (if labelP s = 0 then rpC e hl l v o p st sv (sdC so st sv ps.length (tlZ sx sk sy f)) else labelP s) else hdC he hp ho hn hv) = 0
  · have h0 : hdC he hp ho hn hv = 0 := by
      by_cases h0 : hdC he hp ho hn hv = 0
      · exact h0
      · rw [if_neg h0] at hq; exact hq
    have h2 : labelP s = 0 := by
      by_cases h2 : labelP s = 0
      · exact h2
      · rw [if_pos h0, if_neg h2] at hq; exact hq
    have h3 : rpC e hl l v o p st sv (sdC so st sv ps.length (tlZ sx sk sy f)) = 0 := by rw [if_pos h0, if_pos h2] at hq; exact hq
    rw [seC_ok h0 h2 h3]
    by_cases h5 : e = he
    · subst h5
      rcases Bool.eq_false_or_eq_true (rootB so hp) with h4 | h4
      · rw [h4, show (true && (e == e)) = true by simp, if_pos rfl]
        have hR : ∀ b : Bool, seV (if b = true then 0 else 9) (keyI s) (seO hl l v o p s) = if b = true then ansV 0 (keyI s) (seO hl l v o p s) else .agg #[.int .i64 9, .int .i64 0, .bool false, .string ⟨#[]⟩, .int .i64 0, .int .i64 0, .int .i64 0] := by
          intro b
          cases b
          · exact seV_no (by decide)
          · exact seV_yes
        rw [hR]
        cases hl
        · exact isee_f e hp ho hn hv s l v o p so st sv sp sx sk sy sf ps f w hp0 hv0 hs0 hpl hls hfl h0 h2 h3 h4
        · exact isee_t e hp ho hn hv s l v o p so st sv sp sx sk sy sf ps f w hp0 hv0 hs0 hpl hls hfl h0 h2 h3 h4
      · rw [show (rootB so hp && (e == e)) = false by rw [h4]; rfl, if_neg (by decide), seV_no (by decide)]
        exact isee_s1 e hp ho hn hv s hl l v o p so st sv sp sx sk sy sf ps f w hp0 hv0 hs0 hpl hls hfl h0 h2 h3 h4
    · rw [show (rootB so hp && (e == he)) = false by simp [h5], if_neg (by decide), seV_no (by decide)]
      exact isee_s2 he hp ho hn hv s e hl l v o p so st sv sp sx sk sy sf ps f w hp0 hv0 hs0 hpl hls hfl h0 h2 h3 h5
  · rw [seC_bad hq, seV_no hq]
    exact isee_bad he hp ho hn hv s e hl l v o p so st sv sp sx sk sy sf ps f w hp0 hv0 hs0 hpl hls hfl hq
end U
end Go.Proofs.YtdbbmclobmigdaaGreat
