/- What is answered of a label, by the program. -/
import Derived.Test.YthmnjojjnlnbjaaMp1
import Derived.Test.YthmnjojjnlnbjaaCmpO
import Derived.Test.YthmnjojjnlnbjaaQuiet
namespace Go.Proofs.Ythmnjojjnlnbjaa
open Go.RowKit Go.Maps
namespace U
/-- The record of a key. -/
def lkO (l : Rcl) (key : Int) : Option Rc := if atI l key = -1 then none else some (rAt l (atI l key).toNat)
theorem lkO_map {l : Rcl} (h : DirOk l) (x : Int) : mapTo l l.length x = lkO l x := by
  rcases mapTo_all h x with ⟨h1, h2⟩ | ⟨j, -, h1, h2, -⟩
  · rw [h2, lkO, if_pos h1]
  · rw [h2, lkO, h1, if_neg (by omega), Int.toNat_natCast]
theorem lkO_key {l : Rcl} {x : Int} {r : Rc} (h : lkO l x = some r) : r.k = x ∧ r ∈ l := by
  unfold lkO at h
  rcases atI_cases l x with ⟨h1, -⟩ | ⟨j, h1, h2, h3⟩
  · rw [if_pos h1] at h; cases h
  · rw [h3, if_neg (by omega), Int.toNat_natCast] at h
    cases h
    exact ⟨h2, rAt_mem h1⟩
/-- .. where it has the label. -/
def fO (o : Option Rc) (t : ByteArray) : Option Rc := o.bind fun r => if (r.l.toList == t.toList) = true then some r else none
theorem fO_yes {r : Rc} {t : ByteArray} (h : (r.l.toList == t.toList) = true) : fO (some r) t = some r := by
  show (if (r.l.toList == t.toList) = true then some r else none) = some r
  rw [if_pos h]
theorem fO_no {r : Rc} {t : ByteArray} (h : (r.l.toList == t.toList) = false) : fO (some r) t = none := by
  show (if (r.l.toList == t.toList) = true then some r else none) = none
  rw [if_neg (by rw [h]; decide)]
def anC (l : Rcl) (s : ByteArray) : Int := if dirF l = 0 then labelP s else dirF l
def anO (l : Rcl) (s : ByteArray) : Option Rc := if anC l s = 0 then fO (lkO l (keyI s)) (foldS s) else none
def anK (l : Rcl) (s : ByteArray) : Int := if anC l s = 0 then keyI s else 0
/-- An answer as a value. -/
def ansV (c k : Int) (o : Option Rc) : Value := .agg #[.int .i64 c, .int .i64 k, .bool o.isSome, .string (o.getD rcZ).l, .int .i64 (o.getD rcZ).v, .int .i64 (o.getD rcZ).o, .int .i64 (o.getD rcZ).p]
theorem seven_cells {w : World} {g : Nat} {x0 x1 x2 x3 x4 x5 x6 : Value} {t : TypeId} (h : w.heap[g]? = some (.cells #[x0, x1, x2, x3, x4, x5, x6] t)) :
    w.cell? ⟨g, 0, none⟩ = some x0 ∧ w.cell? ⟨g, 1, none⟩ = some x1 ∧ w.cell? ⟨g, 2, none⟩ = some x2 ∧ w.cell? ⟨g, 3, none⟩ = some x3 ∧ w.cell? ⟨g, 4, none⟩ = some x4 ∧ w.cell? ⟨g, 5, none⟩ = some x5 ∧ w.cell? ⟨g, 6, none⟩ = some x6 ∧
    w.frozen? ⟨g, 0, none⟩ = false ∧ w.frozen? ⟨g, 1, none⟩ = false ∧ w.frozen? ⟨g, 2, none⟩ = false ∧ w.frozen? ⟨g, 3, none⟩ = false ∧ w.frozen? ⟨g, 4, none⟩ = false ∧ w.frozen? ⟨g, 5, none⟩ = false ∧ w.frozen? ⟨g, 6, none⟩ = false := by
  simp [World.cell?, World.frozen?, h]
theorem set7 {B : Nat} {w w' : World} {g : Nat} (h : Below B w w') (hg : B ≤ g) (a b c d e f k : Value) : Below B w (((((((w'.setCell ⟨g, 0, none⟩ a).setCell ⟨g, 1, none⟩ b).setCell ⟨g, 2, none⟩ c).setCell ⟨g, 3, none⟩ d).setCell ⟨g, 4, none⟩ e).setCell ⟨g, 5, none⟩ f).setCell ⟨g, 6, none⟩ k) :=
  (((((((h.setCell hg _).setCell hg _).setCell hg _).setCell hg _).setCell hg _).setCell hg _).setCell hg _)
theorem two_ints_at2 {w : World} {g : Nat} {a b : Int} {t : TypeId} (hg : g = w.heap.size) : Ints .i64 (w.alloc (.cells #[.int .i64 a, .int .i64 b] t)) (.slice (some ⟨g, 0, none⟩) 2 2) [a, b] := by
  subst hg
  have hh := heap_alloc_new w (.cells #[.int .i64 a, .int .i64 b] t)
  refine Or.inr ⟨w.heap.size, 0, 2, rfl, by simp, fun j hj => ?_⟩
  have hj2 : j < 2 := hj
  rcases (by omega : j = 0 ∨ j = 1) with rfl | rfl <;> (unfold World.cell?; rw [hh]; rfl)
theorem fldTX (x : Int) (s : ByteArray) (w : World) : (Instr.field 59 (.agg #[.int .i64 x, .string s]) 1).run Try.prog w = .ok (.string s) w := by kernel_rfl
set_option maxRecDepth 100000 in
set_option maxHeartbeats 2000000 in
theorem implAnswerOf_bad (v : Value) (l : Rcl) (s : ByteArray) (w : World) (hv : Rcs w v l) (hl : Lbs l) (hx : l.length ≤ 1048576) (hs : s.size ≤ 1048576) (q : Int) (hq : (if dirF l = 0 then labelP s else dirF l) = q) (h0 : ¬ q = 0) :
    Calls Try.prog 22 #[.agg #[v], .string s] w fun e w' => e = .returned (ansV q 0 none) ∧ Below w.heap.size w w' := by
  have hD := fun w' hb => implDirectoryFault_any v l w' (hv.below (w' := w') hb) hl (by omega)
  have hL := fun w => implLabelFault_any s w hs
  have hO := fun v w hv => cmpOr2 (dirF l) (labelP s) v w hv
  rw [hq] at hO
  have hqn : (q != 0) = true := by simpa using h0
  obtain ⟨a, c, rfl⟩ := hv.shape
  generalize dirF l = x at *
  generalize labelP s = y at *
  generalize l.length = n at *
  obtain ⟨W, hW⟩ : ∃ W, W = (w.alloc (.cells #[.slice a n c] 26)).alloc (.cells #[.int .i64 0, .int .i64 0, .bool false, .string ⟨#[]⟩, .int .i64 0, .int .i64 0, .int .i64 0] 47) := ⟨_, rfl⟩
  have HW : Hid ((w.alloc (.cells #[.slice a n c] 26)).alloc (.cells #[.int .i64 0, .int .i64 0, .bool false, .string ⟨#[]⟩, .int .i64 0, .int .i64 0, .int .i64 0] 47) = W) := hW.symm
  have hB : Below w.heap.size w W := by rw [hW]; exact two_new _ _
  have h1 : W.heap[w.heap.size + 1]? = some (.cells #[.int .i64 0, .int .i64 0, .bool false, .string ⟨#[]⟩, .int .i64 0, .int .i64 0, .int .i64 0] 47) := by rw [hW]; exact heap_new2 w _ _
  clear hW hv hq h0
  go_enter Try.func22, Try.ntmps22
  go_wp2_with fail
  rw [HW.out]
  refine (hD _ hB).mono ?_
  rintro e w1 ⟨rfl, hb1⟩
  have hB1 := below_after_of hB hb1
  have h1 := (hb1.block _ (Array.getElem?_eq_some_iff.1 h1).1).trans h1
  clear hD hb1 hB
  go_wp2_with fail
  refine (hL _).mono ?_
  rintro e w2 ⟨rfl, hb2⟩
  have hB2 := below_after_of hB1 hb2
  have h1 := (hb2.block _ (Array.getElem?_eq_some_iff.1 h1).1).trans h1
  clear hL hb2 hB1
  go_wp2_with fail
  refine (hO _ _ (two_ints_at2 rfl)).mono ?_
  rintro e w3 ⟨rfl, rfl⟩
  have hB3 : Below w.heap.size w (w2.alloc (.cells #[.int .i64 x, .int .i64 y] 2)) := hB2.alloc hB2.size _
  have h1 := ((one_new (.cells #[.int .i64 x, .int .i64 y] 2)).block _ (Array.getElem?_eq_some_iff.1 h1).1).trans h1
  obtain ⟨W3, hW3⟩ : ∃ W3, W3 = w2.alloc (.cells #[.int .i64 x, .int .i64 y] 2) := ⟨_, rfl⟩
  rw [← hW3] at hB3 h1 ⊢
  obtain ⟨c0, c1, c2, c3, c4, c5, c6, f0, f1, f2, f3, f4, f5, f6⟩ := seven_cells h1
  clear hO hB2 hW3 h1
  go_wp2
  exact bodyPost_ret (v := .agg #[.int .i64 q, .int .i64 0, .bool false, .string ⟨#[]⟩, .int .i64 0, .int .i64 0, .int .i64 0]) (by simp [results, Try.results22, go_sem, *]) rfl ⟨rfl, set7 hB3 (Nat.le_succ _) _ _ _ _ _ _ _⟩
theorem box1_cellA {w : World} {b : Nat} {v : Value} {t : TypeId} (h : w.heap[b]? = some (.cells #[v] t (0, 0))) : w.cell? ⟨b, 0, none⟩ = some v := by unfold World.cell?; rw [h]; rfl
set_option maxRecDepth 100000 in
set_option maxHeartbeats 4000000 in
theorem implAnswerOf_none (v : Value) (l : Rcl) (s : ByteArray) (w : World) (hv : Rcs w v l) (hl : Lbs l) (hx : l.length ≤ 1048576) (hs : s.size ≤ 1048576) (h0 : dirF l = 0) (hs0 : labelP s = 0) (ho : lkO l (keyI s) = none) :
    Calls Try.prog 22 #[.agg #[v], .string s] w fun e w' => e = .returned (ansV 0 (keyI s) none) ∧ Below w.heap.size w w' := by
  have hD := fun w' hb => implDirectoryFault_any v l w' (hv.below (w' := w') hb) hl (by omega)
  have hL := fun w => implLabelFault_any s w hs
  have hO := fun v w hv => cmpOr2 (dirF l) (labelP s) v w hv
  have hK := fun w => implKeyOf_any s w hs
  have hR := fun w' hb => recordsOf_any v l w' (hv.below (w' := w') hb) (dirOk h0)
  have hkb := keyI_bd s
  have hFd := fun w => implFoldLabel_any s w hs
  have hfs : foldP s = foldS s := by unfold foldP; rw [if_pos hs0]
  rw [hs0, hfs] at hFd
  rw [keyV_ok hs0, hs0] at hK
  rw [h0] at hD
  rw [hs0] at hL
  rw [h0, hs0, if_pos rfl] at hO
  have hLk : ∀ w b n, MpAt w b n (mapTo l l.length) → (Instr.lookup 96 (.map (some b)) (.int .i64 (keyI s)) true).run Try.prog w = .ok (.tuple #[valO (mapTo l l.length (keyI s)), .bool (mapTo l l.length (keyI s)).isSome]) w := fun w b n h => h.look hkb
  rw [lkO_map (dirOk h0), ho] at hLk
  have hf1 := field_IR1k
  have hf2 := fldTX
  obtain ⟨a, c, rfl⟩ := hv.shape
  generalize keyI s = kz at *
  generalize foldS s = t at *
  generalize mapTo l l.length = g at *
  generalize l.length = n at *
  obtain ⟨W, hW⟩ : ∃ W, W = (w.alloc (.cells #[.slice a n c] 26)).alloc (.cells #[.int .i64 0, .int .i64 0, .bool false, .string ⟨#[]⟩, .int .i64 0, .int .i64 0, .int .i64 0] 47) := ⟨_, rfl⟩
  have HW : Hid ((w.alloc (.cells #[.slice a n c] 26)).alloc (.cells #[.int .i64 0, .int .i64 0, .bool false, .string ⟨#[]⟩, .int .i64 0, .int .i64 0, .int .i64 0] 47) = W) := hW.symm
  have hB : Below w.heap.size w W := by rw [hW]; exact two_new _ _
  have h1 : W.heap[w.heap.size + 1]? = some (.cells #[.int .i64 0, .int .i64 0, .bool false, .string ⟨#[]⟩, .int .i64 0, .int .i64 0, .int .i64 0] 47) := by rw [hW]; exact heap_new2 w _ _
  have h2 : W.heap[w.heap.size]? = some (.cells #[.slice a n c] 26) := by rw [hW]; exact heap_alloc_old' _ _ _ (heap_alloc_new w _)
  clear hW hv h0 hs0 ho hfs
  go_enter Try.func22, Try.ntmps22
  go_wp2_with fail
  rw [HW.out]
  refine (hD _ hB).mono ?_
  rintro e w1 ⟨rfl, hb1⟩
  have hB1 := below_after_of hB hb1
  have h1 := (hb1.block _ (Array.getElem?_eq_some_iff.1 h1).1).trans h1
  have h2 := (hb1.block _ (Array.getElem?_eq_some_iff.1 h2).1).trans h2
  clear hD hb1 hB
  go_wp2_with fail
  refine (hL _).mono ?_
  rintro e w2 ⟨rfl, hb2⟩
  have hB2 := below_after_of hB1 hb2
  have h1 := (hb2.block _ (Array.getElem?_eq_some_iff.1 h1).1).trans h1
  have h2 := (hb2.block _ (Array.getElem?_eq_some_iff.1 h2).1).trans h2
  clear hL hb2 hB1
  go_wp2_with fail
  refine (hO _ _ (two_ints_at2 rfl)).mono ?_
  rintro e w3 ⟨rfl, rfl⟩
  have hB3 : Below w.heap.size w (w2.alloc (.cells #[.int .i64 0, .int .i64 0] 2)) := hB2.alloc hB2.size _
  have h1 := ((one_new (.cells #[.int .i64 0, .int .i64 0] 2)).block _ (Array.getElem?_eq_some_iff.1 h1).1).trans h1
  have h2 := ((one_new (.cells #[.int .i64 0, .int .i64 0] 2)).block _ (Array.getElem?_eq_some_iff.1 h2).1).trans h2
  obtain ⟨W3, hW3⟩ : ∃ W3, W3 = w2.alloc (.cells #[.int .i64 0, .int .i64 0] 2) := ⟨_, rfl⟩
  rw [← hW3] at hB3 h1 h2 ⊢
  clear hO hB2 hW3
  go_wp2_with fail
  refine (hK _).mono ?_
  rintro e w4 ⟨rfl, hb4⟩
  have hB4 := below_after_of hB3 hb4
  have h1 := (hb4.block _ (Array.getElem?_eq_some_iff.1 h1).1).trans h1
  have h2 := (hb4.block _ (Array.getElem?_eq_some_iff.1 h2).1).trans h2
  have k2 := box1_cellA h2
  clear hK hb4 hB3
  go_wp2_with fail
  refine (hR _ hB4).mono ?_
  rintro e w5 ⟨rfl, hb5, hM5⟩
  have hB5 := below_after_of hB4 hb5
  have h1 := (hb5.block _ (Array.getElem?_eq_some_iff.1 h1).1).trans h1
  have hlk := hLk _ _ _ hM5
  unfold valO at hlk
  dsimp only [Option.getD, Option.isSome, Rc.val, rcZ] at hlk
  have A5 := heap_alloc_new w5 (.cells #[.string ⟨#[]⟩, .int .i64 0, .int .i64 0, .int .i64 0] 28)
  clear hR hb5 hB4 hM5 hLk k2 hFd hf2
  have hB6 : Below w.heap.size w (w5.alloc (.cells #[.string ⟨#[]⟩, .int .i64 0, .int .i64 0, .int .i64 0] 28)) := hB5.alloc hB5.size _
  have h1 := ((one_new (.cells #[.string ⟨#[]⟩, .int .i64 0, .int .i64 0, .int .i64 0] 28)).block _ (Array.getElem?_eq_some_iff.1 h1).1).trans h1
  go_wp2
  go_quiet (fail)
  obtain ⟨W6, hW6⟩ : ∃ W6, W6 = w5.alloc (.cells #[.string ⟨#[]⟩, .int .i64 0, .int .i64 0, .int .i64 0] 28) := ⟨_, rfl⟩
  rw [← hW6] at hB6 h1 ⊢
  obtain ⟨c0, c1, c2, c3, c4, c5, c6, f0, f1, f2, f3, f4, f5, f6⟩ := seven_cells h1
  clear hB5 h1 hlk A5 hW6
  go_wp2
  exact bodyPost_ret (v := .agg #[.int .i64 0, .int .i64 kz, .bool false, .string ⟨#[]⟩, .int .i64 0, .int .i64 0, .int .i64 0]) (by simp [results, Try.results22, go_sem, *]) rfl ⟨rfl, set7 (below_drewN hB6 _) (Nat.le_succ _) _ _ _ _ _ _ _⟩
set_option maxRecDepth 100000 in
set_option maxHeartbeats 4000000 in
theorem implAnswerOf_yes (v : Value) (l : Rcl) (s : ByteArray) (w : World) (hv : Rcs w v l) (hl : Lbs l) (hx : l.length ≤ 1048576) (hs : s.size ≤ 1048576) (h0 : dirF l = 0) (hs0 : labelP s = 0) (x0 : ByteArray) (x1 x2 x3 : Int) (ho : lkO l (keyI s) = some ⟨x0, x1, x2, x3⟩) (hb : (x0.toList == (foldS s).toList) = true) :
    Calls Try.prog 22 #[.agg #[v], .string s] w fun e w' => e = .returned (ansV 0 (keyI s) (some ⟨x0, x1, x2, x3⟩)) ∧ Below w.heap.size w w' := by
  have hD := fun w' hb => implDirectoryFault_any v l w' (hv.below (w' := w') hb) hl (by omega)
  have hL := fun w => implLabelFault_any s w hs
  have hO := fun v w hv => cmpOr2 (dirF l) (labelP s) v w hv
  have hK := fun w => implKeyOf_any s w hs
  have hR := fun w' hb => recordsOf_any v l w' (hv.below (w' := w') hb) (dirOk h0)
  have hkb := keyI_bd s
  have hFd := fun w => implFoldLabel_any s w hs
  have hfs : foldP s = foldS s := by unfold foldP; rw [if_pos hs0]
  rw [hs0, hfs] at hFd
  rw [keyV_ok hs0, hs0] at hK
  rw [h0] at hD
  rw [hs0] at hL
  rw [h0, hs0, if_pos rfl] at hO
  have hLk : ∀ w b n, MpAt w b n (mapTo l l.length) → (Instr.lookup 96 (.map (some b)) (.int .i64 (keyI s)) true).run Try.prog w = .ok (.tuple #[valO (mapTo l l.length (keyI s)), .bool (mapTo l l.length (keyI s)).isSome]) w := fun w b n h => h.look hkb
  rw [lkO_map (dirOk h0), ho] at hLk
  have hf1 := field_IR1k
  have hf2 := fldTX
  obtain ⟨a, c, rfl⟩ := hv.shape
  generalize keyI s = kz at *
  generalize foldS s = t at *
  generalize mapTo l l.length = g at *
  generalize l.length = n at *
  obtain ⟨W, hW⟩ : ∃ W, W = (w.alloc (.cells #[.slice a n c] 26)).alloc (.cells #[.int .i64 0, .int .i64 0, .bool false, .string ⟨#[]⟩, .int .i64 0, .int .i64 0, .int .i64 0] 47) := ⟨_, rfl⟩
  have HW : Hid ((w.alloc (.cells #[.slice a n c] 26)).alloc (.cells #[.int .i64 0, .int .i64 0, .bool false, .string ⟨#[]⟩, .int .i64 0, .int .i64 0, .int .i64 0] 47) = W) := hW.symm
  have hB : Below w.heap.size w W := by rw [hW]; exact two_new _ _
  have h1 : W.heap[w.heap.size + 1]? = some (.cells #[.int .i64 0, .int .i64 0, .bool false, .string ⟨#[]⟩, .int .i64 0, .int .i64 0, .int .i64 0] 47) := by rw [hW]; exact heap_new2 w _ _
  have h2 : W.heap[w.heap.size]? = some (.cells #[.slice a n c] 26) := by rw [hW]; exact heap_alloc_old' _ _ _ (heap_alloc_new w _)
  clear hW hv h0 hs0 ho hfs
  go_enter Try.func22, Try.ntmps22
  go_wp2_with fail
  rw [HW.out]
  refine (hD _ hB).mono ?_
  rintro e w1 ⟨rfl, hb1⟩
  have hB1 := below_after_of hB hb1
  have h1 := (hb1.block _ (Array.getElem?_eq_some_iff.1 h1).1).trans h1
  have h2 := (hb1.block _ (Array.getElem?_eq_some_iff.1 h2).1).trans h2
  clear hD hb1 hB
  go_wp2_with fail
  refine (hL _).mono ?_
  rintro e w2 ⟨rfl, hb2⟩
  have hB2 := below_after_of hB1 hb2
  have h1 := (hb2.block _ (Array.getElem?_eq_some_iff.1 h1).1).trans h1
  have h2 := (hb2.block _ (Array.getElem?_eq_some_iff.1 h2).1).trans h2
  clear hL hb2 hB1
  go_wp2_with fail
  refine (hO _ _ (two_ints_at2 rfl)).mono ?_
  rintro e w3 ⟨rfl, rfl⟩
  have hB3 : Below w.heap.size w (w2.alloc (.cells #[.int .i64 0, .int .i64 0] 2)) := hB2.alloc hB2.size _
  have h1 := ((one_new (.cells #[.int .i64 0, .int .i64 0] 2)).block _ (Array.getElem?_eq_some_iff.1 h1).1).trans h1
  have h2 := ((one_new (.cells #[.int .i64 0, .int .i64 0] 2)).block _ (Array.getElem?_eq_some_iff.1 h2).1).trans h2
  obtain ⟨W3, hW3⟩ : ∃ W3, W3 = w2.alloc (.cells #[.int .i64 0, .int .i64 0] 2) := ⟨_, rfl⟩
  rw [← hW3] at hB3 h1 h2 ⊢
  clear hO hB2 hW3
  go_wp2_with fail
  refine (hK _).mono ?_
  rintro e w4 ⟨rfl, hb4⟩
  have hB4 := below_after_of hB3 hb4
  have h1 := (hb4.block _ (Array.getElem?_eq_some_iff.1 h1).1).trans h1
  have h2 := (hb4.block _ (Array.getElem?_eq_some_iff.1 h2).1).trans h2
  have k2 := box1_cellA h2
  clear hK hb4 hB3
  go_wp2_with fail
  refine (hR _ hB4).mono ?_
  rintro e w5 ⟨rfl, hb5, hM5⟩
  have hB5 := below_after_of hB4 hb5
  have h1 := (hb5.block _ (Array.getElem?_eq_some_iff.1 h1).1).trans h1
  have hlk := hLk _ _ _ hM5
  unfold valO at hlk
  dsimp only [Option.getD, Option.isSome, Rc.val] at hlk
  have hB6 : Below w.heap.size w (w5.alloc (.cells #[.string x0, .int .i64 x1, .int .i64 x2, .int .i64 x3] 28)) := hB5.alloc hB5.size _
  have A6 := heap_alloc_new w5 (.cells #[.string x0, .int .i64 x1, .int .i64 x2, .int .i64 x3] 28)
  have h1 := ((one_new (.cells #[.string x0, .int .i64 x1, .int .i64 x2, .int .i64 x3] 28)).block _ (Array.getElem?_eq_some_iff.1 h1).1).trans h1
  obtain ⟨W6, hW6⟩ : ∃ W6, W6 = w5.alloc (.cells #[.string x0, .int .i64 x1, .int .i64 x2, .int .i64 x3] 28) := ⟨_, rfl⟩
  have HW6 : Hid (w5.alloc (.cells #[.string x0, .int .i64 x1, .int .i64 x2, .int .i64 x3] 28) = W6) := hW6.symm
  rw [← hW6] at hB6 h1 A6
  clear hR hb5 hB4 hM5 hLk k2 hB5 hW6
  obtain ⟨r0, r1, r2, r3⟩ := four_cellsV A6
  have q0 := After.cell r0
  have hne := After.ne W6
  go_wp2_with fail
  rw [HW6.out]
  refine wp_region_after (by kernel_rfl) (by kernel_rfl) ?_
  repeat (first | go_big_quiet_skip | (go_big_quiet_want; go_big_quiet_op; first | go_big_quiet_on | go_big_quiet_call (first | (go_at_call 32; refine (hFd _).mono ?_; rintro e wq ⟨rfl, hbq⟩; exact ⟨rfl, after_mk (below_after_of (After.b _) hbq)⟩))))
  refine wpQuiet_nil ?_
  rintro _ ⟨n6, rfl⟩
  have hb7 := n6.b
  have hB7 := below_after_of hB6 hb7
  have h1 := (hb7.block _ (Array.getElem?_eq_some_iff.1 h1).1).trans h1
  have A7 := (hb7.block _ (Array.getElem?_eq_some_iff.1 A6).1).trans A6
  generalize n6.w = w7 at *
  obtain ⟨c0, c1, c2, c3, c4, c5, c6, f0, f1, f2, f3, f4, f5, f6⟩ := seven_cells h1
  obtain ⟨r0, r1, r2, r3⟩ := four_cellsV A7
  have hlt7 := (Array.getElem?_eq_some_iff.1 A7).1
  clear h1 A6 A7 hb7 hne q0 n6 hB6 hlk hFd
  go_wp2
  exact bodyPost_ret (v := .agg #[.int .i64 0, .int .i64 kz, .bool true, .string x0, .int .i64 x1, .int .i64 x2, .int .i64 x3]) (by simp [results, Try.results22, go_sem, *]) rfl ⟨rfl, set7 hB7 (Nat.le_succ _) _ _ _ _ _ _ _⟩
set_option maxRecDepth 100000 in
set_option maxHeartbeats 4000000 in
theorem implAnswerOf_not (v : Value) (l : Rcl) (s : ByteArray) (w : World) (hv : Rcs w v l) (hl : Lbs l) (hx : l.length ≤ 1048576) (hs : s.size ≤ 1048576) (h0 : dirF l = 0) (hs0 : labelP s = 0) (x0 : ByteArray) (x1 x2 x3 : Int) (ho : lkO l (keyI s) = some ⟨x0, x1, x2, x3⟩) (hb : (x0.toList == (foldS s).toList) = false) :
    Calls Try.prog 22 #[.agg #[v], .string s] w fun e w' => e = .returned (ansV 0 (keyI s) none) ∧ Below w.heap.size w w' := by
  have hD := fun w' hb => implDirectoryFault_any v l w' (hv.below (w' := w') hb) hl (by omega)
  have hL := fun w => implLabelFault_any s w hs
  have hO := fun v w hv => cmpOr2 (dirF l) (labelP s) v w hv
  have hK := fun w => implKeyOf_any s w hs
  have hR := fun w' hb => recordsOf_any v l w' (hv.below (w' := w') hb) (dirOk h0)
  have hkb := keyI_bd s
  have hFd := fun w => implFoldLabel_any s w hs
  have hfs : foldP s = foldS s := by unfold foldP; rw [if_pos hs0]
  rw [hs0, hfs] at hFd
  rw [keyV_ok hs0, hs0] at hK
  rw [h0] at hD
  rw [hs0] at hL
  rw [h0, hs0, if_pos rfl] at hO
  have hLk : ∀ w b n, MpAt w b n (mapTo l l.length) → (Instr.lookup 96 (.map (some b)) (.int .i64 (keyI s)) true).run Try.prog w = .ok (.tuple #[valO (mapTo l l.length (keyI s)), .bool (mapTo l l.length (keyI s)).isSome]) w := fun w b n h => h.look hkb
  rw [lkO_map (dirOk h0), ho] at hLk
  have hf1 := field_IR1k
  have hf2 := fldTX
  obtain ⟨a, c, rfl⟩ := hv.shape
  generalize keyI s = kz at *
  generalize foldS s = t at *
  generalize mapTo l l.length = g at *
  generalize l.length = n at *
  obtain ⟨W, hW⟩ : ∃ W, W = (w.alloc (.cells #[.slice a n c] 26)).alloc (.cells #[.int .i64 0, .int .i64 0, .bool false, .string ⟨#[]⟩, .int .i64 0, .int .i64 0, .int .i64 0] 47) := ⟨_, rfl⟩
  have HW : Hid ((w.alloc (.cells #[.slice a n c] 26)).alloc (.cells #[.int .i64 0, .int .i64 0, .bool false, .string ⟨#[]⟩, .int .i64 0, .int .i64 0, .int .i64 0] 47) = W) := hW.symm
  have hB : Below w.heap.size w W := by rw [hW]; exact two_new _ _
  have h1 : W.heap[w.heap.size + 1]? = some (.cells #[.int .i64 0, .int .i64 0, .bool false, .string ⟨#[]⟩, .int .i64 0, .int .i64 0, .int .i64 0] 47) := by rw [hW]; exact heap_new2 w _ _
  have h2 : W.heap[w.heap.size]? = some (.cells #[.slice a n c] 26) := by rw [hW]; exact heap_alloc_old' _ _ _ (heap_alloc_new w _)
  clear hW hv h0 hs0 ho hfs
  go_enter Try.func22, Try.ntmps22
  go_wp2_with fail
  rw [HW.out]
  refine (hD _ hB).mono ?_
  rintro e w1 ⟨rfl, hb1⟩
  have hB1 := below_after_of hB hb1
  have h1 := (hb1.block _ (Array.getElem?_eq_some_iff.1 h1).1).trans h1
  have h2 := (hb1.block _ (Array.getElem?_eq_some_iff.1 h2).1).trans h2
  clear hD hb1 hB
  go_wp2_with fail
  refine (hL _).mono ?_
  rintro e w2 ⟨rfl, hb2⟩
  have hB2 := below_after_of hB1 hb2
  have h1 := (hb2.block _ (Array.getElem?_eq_some_iff.1 h1).1).trans h1
  have h2 := (hb2.block _ (Array.getElem?_eq_some_iff.1 h2).1).trans h2
  clear hL hb2 hB1
  go_wp2_with fail
  refine (hO _ _ (two_ints_at2 rfl)).mono ?_
  rintro e w3 ⟨rfl, rfl⟩
  have hB3 : Below w.heap.size w (w2.alloc (.cells #[.int .i64 0, .int .i64 0] 2)) := hB2.alloc hB2.size _
  have h1 := ((one_new (.cells #[.int .i64 0, .int .i64 0] 2)).block _ (Array.getElem?_eq_some_iff.1 h1).1).trans h1
  have h2 := ((one_new (.cells #[.int .i64 0, .int .i64 0] 2)).block _ (Array.getElem?_eq_some_iff.1 h2).1).trans h2
  obtain ⟨W3, hW3⟩ : ∃ W3, W3 = w2.alloc (.cells #[.int .i64 0, .int .i64 0] 2) := ⟨_, rfl⟩
  rw [← hW3] at hB3 h1 h2 ⊢
  clear hO hB2 hW3
  go_wp2_with fail
  refine (hK _).mono ?_
  rintro e w4 ⟨rfl, hb4⟩
  have hB4 := below_after_of hB3 hb4
  have h1 := (hb4.block _ (Array.getElem?_eq_some_iff.1 h1).1).trans h1
  have h2 := (hb4.block _ (Array.getElem?_eq_some_iff.1 h2).1).trans h2
  have k2 := box1_cellA h2
  clear hK hb4 hB3
  go_wp2_with fail
  refine (hR _ hB4).mono ?_
  rintro e w5 ⟨rfl, hb5, hM5⟩
  have hB5 := below_after_of hB4 hb5
  have h1 := (hb5.block _ (Array.getElem?_eq_some_iff.1 h1).1).trans h1
  have hlk := hLk _ _ _ hM5
  unfold valO at hlk
  dsimp only [Option.getD, Option.isSome, Rc.val] at hlk
  have hB6 : Below w.heap.size w (w5.alloc (.cells #[.string x0, .int .i64 x1, .int .i64 x2, .int .i64 x3] 28)) := hB5.alloc hB5.size _
  have A6 := heap_alloc_new w5 (.cells #[.string x0, .int .i64 x1, .int .i64 x2, .int .i64 x3] 28)
  have h1 := ((one_new (.cells #[.string x0, .int .i64 x1, .int .i64 x2, .int .i64 x3] 28)).block _ (Array.getElem?_eq_some_iff.1 h1).1).trans h1
  obtain ⟨W6, hW6⟩ : ∃ W6, W6 = w5.alloc (.cells #[.string x0, .int .i64 x1, .int .i64 x2, .int .i64 x3] 28) := ⟨_, rfl⟩
  have HW6 : Hid (w5.alloc (.cells #[.string x0, .int .i64 x1, .int .i64 x2, .int .i64 x3] 28) = W6) := hW6.symm
  rw [← hW6] at hB6 h1 A6
  clear hR hb5 hB4 hM5 hLk k2 hB5 hW6
  obtain ⟨r0, r1, r2, r3⟩ := four_cellsV A6
  have q0 := After.cell r0
  have hne := After.ne W6
  go_wp2_with fail
  rw [HW6.out]
  refine wp_region_after (by kernel_rfl) (by kernel_rfl) ?_
  repeat (first | go_big_quiet_skip | (go_big_quiet_want; go_big_quiet_op; first | go_big_quiet_on | go_big_quiet_call (first | (go_at_call 32; refine (hFd _).mono ?_; rintro e wq ⟨rfl, hbq⟩; exact ⟨rfl, after_mk (below_after_of (After.b _) hbq)⟩))))
  refine wpQuiet_nil ?_
  rintro _ ⟨n6, rfl⟩
  have hb7 := n6.b
  have hB7 := below_after_of hB6 hb7
  have h1 := (hb7.block _ (Array.getElem?_eq_some_iff.1 h1).1).trans h1
  generalize n6.w = w7 at *
  obtain ⟨c0, c1, c2, c3, c4, c5, c6, f0, f1, f2, f3, f4, f5, f6⟩ := seven_cells h1
  clear h1 A6 hb7 hne q0 n6 hB6 hlk hFd
  go_wp2
  exact bodyPost_ret (v := .agg #[.int .i64 0, .int .i64 kz, .bool false, .string ⟨#[]⟩, .int .i64 0, .int .i64 0, .int .i64 0]) (by simp [results, Try.results22, go_sem, *]) rfl ⟨rfl, set7 hB7 (Nat.le_succ _) _ _ _ _ _ _ _⟩
theorem implAnswerOf_any (v : Value) (l : Rcl) (s : ByteArray) (w : World) (hv : Rcs w v l) (hl : Lbs l) (hx : l.length ≤ 1048576) (hs : s.size ≤ 1048576) :
    Calls Try.prog 22 #[.agg #[v], .string s] w fun e w' => e = .returned (ansV (anC l s) (anK l s) (anO l s)) ∧ Below w.heap.size w w' := by
  by_cases h : anC l s = 0
  · have h0 : dirF l = 0 := by
      unfold anC at h
      by_cases h1 : dirF l = 0
      · exact h1
      · rw [if_neg h1] at h; exact absurd h h1
    have hs0 : labelP s = 0 := by unfold anC at h; rwa [if_pos h0] at h
    rw [h, anK, anO, if_pos h, if_pos h]
    rcases ho : lkO l (keyI s) with _ | ⟨x0, x1, x2, x3⟩
    · exact implAnswerOf_none v l s w hv hl hx hs h0 hs0 ho
    · rcases Bool.eq_false_or_eq_true (x0.toList == (foldS s).toList) with hb | hb
      · rw [fO_yes (r := ⟨x0, x1, x2, x3⟩) hb]
        exact implAnswerOf_yes v l s w hv hl hx hs h0 hs0 x0 x1 x2 x3 ho hb
      · rw [fO_no (r := ⟨x0, x1, x2, x3⟩) hb]
        exact implAnswerOf_not v l s w hv hl hx hs h0 hs0 x0 x1 x2 x3 ho hb
  · rw [anK, anO, if_neg h, if_neg h]
    exact implAnswerOf_bad v l s w hv hl hx hs _ rfl h
end U
end Go.Proofs.Ythmnjojjnlnbjaa
