/- Joined: what the texts behind it need. -/
import Derived.Test.YtdbbmclobmigdaaGreatGSF
import Derived.Test.YtdbbmclobmigdaaGreatGSD
import Derived.Deep.Cut
import Derived.Test.YtdbbmclobmigdaaGreatGSE
import Derived.Test.YtdbbmclobmigdaaGreatGSG
/- Two replies held against one another, by the model. -/
namespace Go.Proofs.YtdbbmclobmigdaaGreat
open Go.RowKit
namespace U
theorem four_newB {w : World} (o o' o'' o3 : Obj) : Below w.heap.size w ((((w.alloc o).alloc o').alloc o'').alloc o3) := (three_new o o' o'').alloc (three_new (w := w) o o' o'').size _
/-- Four blocks, one behind the other. -/
structure Bx4 (w : World) (g : Nat) (o0 o1 o2 o3 : Obj) : Prop where
  b0 : w.heap[g]? = some o0
  b1 : w.heap[g + 1]? = some o1
  b2 : w.heap[g + 2]? = some o2
  b3 : w.heap[g + 3]? = some o3
theorem Bx4.below {w w' : World} {g : Nat} {o0 o1 o2 o3 : Obj} (h : Bx4 w g o0 o1 o2 o3) (hb : Below w.heap.size w w') : Bx4 w' g o0 o1 o2 o3 :=
  ⟨(hb.block _ (Array.getElem?_eq_some_iff.1 h.b0).1).trans h.b0, (hb.block _ (Array.getElem?_eq_some_iff.1 h.b1).1).trans h.b1, (hb.block _ (Array.getElem?_eq_some_iff.1 h.b2).1).trans h.b2, (hb.block _ (Array.getElem?_eq_some_iff.1 h.b3).1).trans h.b3⟩
theorem Bx4.new (w : World) (o0 o1 o2 o3 : Obj) : Bx4 ((((w.alloc o0).alloc o1).alloc o2).alloc o3) w.heap.size o0 o1 o2 o3 := by
  have e1 : (w.alloc o0).heap.size = w.heap.size + 1 := by simp
  have e2 : ((w.alloc o0).alloc o1).heap.size = w.heap.size + 2 := by simp
  have e3 : (((w.alloc o0).alloc o1).alloc o2).heap.size = w.heap.size + 3 := by simp
  have k0 := heap_alloc_new w o0
  have k1 := heap_alloc_new (w.alloc o0) o1
  have k2 := heap_alloc_new ((w.alloc o0).alloc o1) o2
  have k3 := heap_alloc_new (((w.alloc o0).alloc o1).alloc o2) o3
  rw [e1] at k1
  rw [e2] at k2
  rw [e3] at k3
  have s (u : World) (o : Obj) (j : Nat) (hj : j < u.heap.size) (x : Obj) (h : u.heap[j]? = some x) : (u.alloc o).heap[j]? = some x := ((one_new (w := u) o).block j hj).trans h
  exact ⟨s _ _ _ (by first | (simp; done) | (simp; omega)) _ (s _ _ _ (by first | (simp; done) | (simp; omega)) _ (s _ _ _ (by first | (simp; done) | (simp; omega)) _ k0)), s _ _ _ (by first | (simp; done) | (simp; omega)) _ (s _ _ _ (by first | (simp; done) | (simp; omega)) _ k1), s _ _ _ (by first | (simp; done) | (simp; omega)) _ k2, k3⟩
/-- Are two answers one? -/
def anQ (k1 : Int) (f1 : Bool) (t1 : ByteArray) (x1 y1 z1 : Int) (k2 : Int) (f2 : Bool) (t2 : ByteArray) (x2 y2 z2 : Int) : Bool := (k1 == k2) && ((f1 == f2) && ((t1.toList == t2.toList) && ((x1 == x2) && ((y1 == y2) && (z1 == z2)))))
theorem answer_eq (k1 : Int) (f1 : Bool) (t1 : ByteArray) (x1 y1 z1 : Int) (k2 : Int) (f2 : Bool) (t2 : ByteArray) (x2 y2 z2 : Int) (w : World) : (binOp .eql 39 (.agg #[.int .i64 k1, .bool f1, .string t1, .int .i64 x1, .int .i64 y1, .int .i64 z1]) (.agg #[.int .i64 k2, .bool f2, .string t2, .int .i64 x2, .int .i64 y2, .int .i64 z2])).run Tryz.prog w = .ok (.bool (anQ k1 f1 t1 x1 y1 z1 k2 f2 t2 x2 y2 z2)) w := by
  unfold anQ
  simp [go_sem]
  by_cases h1 : k1 = k2 <;> by_cases h2 : f1 = f2 <;> by_cases h3 : t1.toList = t2.toList <;> by_cases h4 : x1 = x2 <;> by_cases h5 : y1 = y2 <;> by_cases h6 : z1 = z2 <;> simp [h1, h2, h3, h4, h5, h6]
set_option maxRecDepth 100000 in
set_option maxHeartbeats 4000000 in
theorem both_1 (he hp ho hn hv : Int) (s : ByteArray) (e1 : Int) (hl1 : Bool) (l1 : ByteArray) (v1 o1 p1 : Int) (so1 st1 : Bool) (sv1 : Int) (a1 : Option Addr) (pn1 c1 : Nat) (sx1 : Bool) (sk1 sy1 : Int) (b1 : Option Addr) (fn1 d1 : Nat) (e2 : Int) (hl2 : Bool) (l2 : ByteArray) (v2 o2 p2 : Int) (so2 st2 : Bool) (sv2 : Int) (a2 : Option Addr) (pn2 c2 : Nat) (sx2 : Bool) (sk2 sy2 : Int) (b2 : Option Addr) (fn2 d2 : Nat) (q1 k1 : Int) (f1 : Bool) (t1 : ByteArray) (x1 y1 z1 : Int) (w : World) (HS1 : ∀ w', Below w.heap.size w w' → Calls Tryz.prog 8 #[.agg #[.int .i64 he, .int .i64 hp, .int .i64 ho, .int .i64 hn, .int .i64 hv], .string s, .agg #[.int .i64 e1, .bool hl1, .string l1, .int .i64 v1, .int .i64 o1, .int .i64 p1, .bool so1, .bool st1, .int .i64 sv1, .slice a1 pn1 c1, .bool sx1, .int .i64 sk1, .int .i64 sy1, .slice b1 fn1 d1]] w' fun x w'' => x = .returned (.agg #[.int .i64 q1, .int .i64 k1, .bool f1, .string t1, .int .i64 x1, .int .i64 y1, .int .i64 z1]) ∧ Below w'.heap.size w' w'') (h : ¬ q1 = 0) :
    Calls Tryz.prog 14 #[.agg #[.int .i64 he, .int .i64 hp, .int .i64 ho, .int .i64 hn, .int .i64 hv], .string s, .agg #[.int .i64 e1, .bool hl1, .string l1, .int .i64 v1, .int .i64 o1, .int .i64 p1, .bool so1, .bool st1, .int .i64 sv1, .slice a1 pn1 c1, .bool sx1, .int .i64 sk1, .int .i64 sy1, .slice b1 fn1 d1], .agg #[.int .i64 e2, .bool hl2, .string l2, .int .i64 v2, .int .i64 o2, .int .i64 p2, .bool so2, .bool st2, .int .i64 sv2, .slice a2 pn2 c2, .bool sx2, .int .i64 sk2, .int .i64 sy2, .slice b2 fn2 d2]] w fun x w' => x = .returned (.agg #[.int .i64 q1, .int .i64 0]) ∧ Below w.heap.size w w' := by
  obtain ⟨W, hW⟩ : ∃ W, W = (((w.alloc (.cells #[.int .i64 he, .int .i64 hp, .int .i64 ho, .int .i64 hn, .int .i64 hv] 43)).alloc (.cells #[.int .i64 e1, .bool hl1, .string l1, .int .i64 v1, .int .i64 o1, .int .i64 p1, .bool so1, .bool st1, .int .i64 sv1, .slice a1 pn1 c1, .bool sx1, .int .i64 sk1, .int .i64 sy1, .slice b1 fn1 d1] 52)).alloc (.cells #[.int .i64 e2, .bool hl2, .string l2, .int .i64 v2, .int .i64 o2, .int .i64 p2, .bool so2, .bool st2, .int .i64 sv2, .slice a2 pn2 c2, .bool sx2, .int .i64 sk2, .int .i64 sy2, .slice b2 fn2 d2] 52)).alloc (.cells #[.int .i64 0, .int .i64 0] 58) := ⟨_, rfl⟩
  have HW : Hid ((((w.alloc (.cells #[.int .i64 he, .int .i64 hp, .int .i64 ho, .int .i64 hn, .int .i64 hv] 43)).alloc (.cells #[.int .i64 e1, .bool hl1, .string l1, .int .i64 v1, .int .i64 o1, .int .i64 p1, .bool so1, .bool st1, .int .i64 sv1, .slice a1 pn1 c1, .bool sx1, .int .i64 sk1, .int .i64 sy1, .slice b1 fn1 d1] 52)).alloc (.cells #[.int .i64 e2, .bool hl2, .string l2, .int .i64 v2, .int .i64 o2, .int .i64 p2, .bool so2, .bool st2, .int .i64 sv2, .slice a2 pn2 c2, .bool sx2, .int .i64 sk2, .int .i64 sy2, .slice b2 fn2 d2] 52)).alloc (.cells #[.int .i64 0, .int .i64 0] 58) = W) := hW.symm
  have hB : Below w.heap.size w W := by rw [hW]; exact four_newB _ _ _ _
  have B0 : Bx4 W w.heap.size (.cells #[.int .i64 he, .int .i64 hp, .int .i64 ho, .int .i64 hn, .int .i64 hv] 43) (.cells #[.int .i64 e1, .bool hl1, .string l1, .int .i64 v1, .int .i64 o1, .int .i64 p1, .bool so1, .bool st1, .int .i64 sv1, .slice a1 pn1 c1, .bool sx1, .int .i64 sk1, .int .i64 sy1, .slice b1 fn1 d1] 52) (.cells #[.int .i64 e2, .bool hl2, .string l2, .int .i64 v2, .int .i64 o2, .int .i64 p2, .bool so2, .bool st2, .int .i64 sv2, .slice a2 pn2 c2, .bool sx2, .int .i64 sk2, .int .i64 sy2, .slice b2 fn2 d2] 52) (.cells #[.int .i64 0, .int .i64 0] 58) := by rw [hW]; exact Bx4.new w _ _ _ _
  have HK : Hid (∀ w', Below W.heap.size W w' → Bx4 w' w.heap.size (.cells #[.int .i64 he, .int .i64 hp, .int .i64 ho, .int .i64 hn, .int .i64 hv] 43) (.cells #[.int .i64 e1, .bool hl1, .string l1, .int .i64 v1, .int .i64 o1, .int .i64 p1, .bool so1, .bool st1, .int .i64 sv1, .slice a1 pn1 c1, .bool sx1, .int .i64 sk1, .int .i64 sy1, .slice b1 fn1 d1] 52) (.cells #[.int .i64 e2, .bool hl2, .string l2, .int .i64 v2, .int .i64 o2, .int .i64 p2, .bool so2, .bool st2, .int .i64 sv2, .slice a2 pn2 c2, .bool sx2, .int .i64 sk2, .int .i64 sy2, .slice b2 fn2 d2] 52) (.cells #[.int .i64 0, .int .i64 0] 58)) := fun w' hb => B0.below hb
  obtain ⟨h0, h1, h2, h3, h4⟩ := five_cells B0.b0
  obtain ⟨⟨r0, r1, r2, r3, r4, r5, r6, r7, r8, r9, r10, r11, r12, r13⟩, -⟩ := fourteen B0.b1
  clear hW B0
  go_enter Tryz.func14, Tryz.ntmps14
  go_upto_region 1 with fail
  rw [HW.out]
  go_wp2_with fail
  refine (HS1 _ hB).mono ?_
  rintro x w1 ⟨rfl, hb1⟩
  clear HS1 h0 h1 h2 h3 h4 r0 r1 r2 r3 r4 r5 r6 r7 r8 r9 r10 r11 r12 r13
  obtain ⟨W1, hW1⟩ : ∃ W1, W1 = w1.alloc (.cells #[.int .i64 q1, .int .i64 k1, .bool f1, .string t1, .int .i64 x1, .int .i64 y1, .int .i64 z1] 41) := ⟨_, rfl⟩
  have HW1 : Hid (w1.alloc (.cells #[.int .i64 q1, .int .i64 k1, .bool f1, .string t1, .int .i64 x1, .int .i64 y1, .int .i64 z1] 41) = W1) := hW1.symm
  have hC1 : Below W.heap.size W W1 := by rw [hW1]; exact hb1.alloc hb1.size _
  have X1 : W1.heap[w1.heap.size]? = some (.cells #[.int .i64 q1, .int .i64 k1, .bool f1, .string t1, .int .i64 x1, .int .i64 y1, .int .i64 z1] 41) := by rw [hW1]; exact heap_alloc_new _ _
  have hg1 : w.heap.size + 3 < w1.heap.size := (Array.getElem?_eq_some_iff.1 (HK.out _ hb1).b3).1
  have hn1 : ¬ (w1.heap.size = w.heap.size + 3) := by omega
  have hn1' : ¬ (w.heap.size + 3 = w1.heap.size) := by omega
  clear hW1 hb1
  go_upto_region 2 with fail
  rw [HW1.out]
  obtain ⟨u0, u1, u2, u3, u4, u5, u6, -⟩ := seven_cells X1
  have hq : (q1 != 0) = true := code_ne h
  obtain ⟨c0, c1, e0, e1⟩ := two_cells (HK.out _ hC1).b3
  have hBB := below_after_of hB hC1
  clear HK hC1 X1 h
  go_wp2
  exact bodyPost_ret (v := .agg #[.int .i64 q1, .int .i64 0]) (by simp [results, Tryz.results14, go_sem, *]) rfl ⟨rfl, (hBB.setCell (by dsimp only; omega) _).setCell (by dsimp only; omega) _⟩
set_option maxRecDepth 100000 in
set_option maxHeartbeats 4000000 in
theorem both_2 (he hp ho hn hv : Int) (s : ByteArray) (e1 : Int) (hl1 : Bool) (l1 : ByteArray) (v1 o1 p1 : Int) (so1 st1 : Bool) (sv1 : Int) (a1 : Option Addr) (pn1 c1 : Nat) (sx1 : Bool) (sk1 sy1 : Int) (b1 : Option Addr) (fn1 d1 : Nat) (e2 : Int) (hl2 : Bool) (l2 : ByteArray) (v2 o2 p2 : Int) (so2 st2 : Bool) (sv2 : Int) (a2 : Option Addr) (pn2 c2 : Nat) (sx2 : Bool) (sk2 sy2 : Int) (b2 : Option Addr) (fn2 d2 : Nat) (k1 : Int) (f1 : Bool) (t1 : ByteArray) (x1 y1 z1 : Int) (q2 k2 : Int) (f2 : Bool) (t2 : ByteArray) (x2 y2 z2 : Int) (w : World) (HS1 : ∀ w', Below w.heap.size w w' → Calls Tryz.prog 8 #[.agg #[.int .i64 he, .int .i64 hp, .int .i64 ho, .int .i64 hn, .int .i64 hv], .string s, .agg #[.int .i64 e1, .bool hl1, .string l1, .int .i64 v1, .int .i64 o1, .int .i64 p1, .bool so1, .bool st1, .int .i64 sv1, .slice a1 pn1 c1, .bool sx1, .int .i64 sk1, .int .i64 sy1, .slice b1 fn1 d1]] w' fun x w'' => x = .returned (.agg #[.int .i64 0, .int .i64 k1, .bool f1, .string t1, .int .i64 x1, .int .i64 y1, .int .i64 z1]) ∧ Below w'.heap.size w' w'') (HS2 : ∀ w', Below w.heap.size w w' → Calls Tryz.prog 8 #[.agg #[.int .i64 he, .int .i64 hp, .int .i64 ho, .int .i64 hn, .int .i64 hv], .string s, .agg #[.int .i64 e2, .bool hl2, .string l2, .int .i64 v2, .int .i64 o2, .int .i64 p2, .bool so2, .bool st2, .int .i64 sv2, .slice a2 pn2 c2, .bool sx2, .int .i64 sk2, .int .i64 sy2, .slice b2 fn2 d2]] w' fun x w'' => x = .returned (.agg #[.int .i64 q2, .int .i64 k2, .bool f2, .string t2, .int .i64 x2, .int .i64 y2, .int .i64 z2]) ∧ Below w'.heap.size w' w'') (h : ¬ q2 = 0) :
    Calls Tryz.prog 14 #[.agg #[.int .i64 he, .int .i64 hp, .int .i64 ho, .int .i64 hn, .int .i64 hv], .string s, .agg #[.int .i64 e1, .bool hl1, .string l1, .int .i64 v1, .int .i64 o1, .int .i64 p1, .bool so1, .bool st1, .int .i64 sv1, .slice a1 pn1 c1, .bool sx1, .int .i64 sk1, .int .i64 sy1, .slice b1 fn1 d1], .agg #[.int .i64 e2, .bool hl2, .string l2, .int .i64 v2, .int .i64 o2, .int .i64 p2, .bool so2, .bool st2, .int .i64 sv2, .slice a2 pn2 c2, .bool sx2, .int .i64 sk2, .int .i64 sy2, .slice b2 fn2 d2]] w fun x w' => x = .returned (.agg #[.int .i64 q2, .int .i64 0]) ∧ Below w.heap.size w w' := by
  obtain ⟨W, hW⟩ : ∃ W, W = (((w.alloc (.cells #[.int .i64 he, .int .i64 hp, .int .i64 ho, .int .i64 hn, .int .i64 hv] 43)).alloc (.cells #[.int .i64 e1, .bool hl1, .string l1, .int .i64 v1, .int .i64 o1, .int .i64 p1, .bool so1, .bool st1, .int .i64 sv1, .slice a1 pn1 c1, .bool sx1, .int .i64 sk1, .int .i64 sy1, .slice b1 fn1 d1] 52)).alloc (.cells #[.int .i64 e2, .bool hl2, .string l2, .int .i64 v2, .int .i64 o2, .int .i64 p2, .bool so2, .bool st2, .int .i64 sv2, .slice a2 pn2 c2, .bool sx2, .int .i64 sk2, .int .i64 sy2, .slice b2 fn2 d2] 52)).alloc (.cells #[.int .i64 0, .int .i64 0] 58) := ⟨_, rfl⟩
  have HW : Hid ((((w.alloc (.cells #[.int .i64 he, .int .i64 hp, .int .i64 ho, .int .i64 hn, .int .i64 hv] 43)).alloc (.cells #[.int .i64 e1, .bool hl1, .string l1, .int .i64 v1, .int .i64 o1, .int .i64 p1, .bool so1, .bool st1, .int .i64 sv1, .slice a1 pn1 c1, .bool sx1, .int .i64 sk1, .int .i64 sy1, .slice b1 fn1 d1] 52)).alloc (.cells #[.int .i64 e2, .bool hl2, .string l2, .int .i64 v2, .int .i64 o2, .int .i64 p2, .bool so2, .bool st2, .int .i64 sv2, .slice a2 pn2 c2, .bool sx2, .int .i64 sk2, .int .i64 sy2, .slice b2 fn2 d2] 52)).alloc (.cells #[.int .i64 0, .int .i64 0] 58) = W) := hW.symm
  have hB : Below w.heap.size w W := by rw [hW]; exact four_newB _ _ _ _
  have B0 : Bx4 W w.heap.size (.cells #[.int .i64 he, .int .i64 hp, .int .i64 ho, .int .i64 hn, .int .i64 hv] 43) (.cells #[.int .i64 e1, .bool hl1, .string l1, .int .i64 v1, .int .i64 o1, .int .i64 p1, .bool so1, .bool st1, .int .i64 sv1, .slice a1 pn1 c1, .bool sx1, .int .i64 sk1, .int .i64 sy1, .slice b1 fn1 d1] 52) (.cells #[.int .i64 e2, .bool hl2, .string l2, .int .i64 v2, .int .i64 o2, .int .i64 p2, .bool so2, .bool st2, .int .i64 sv2, .slice a2 pn2 c2, .bool sx2, .int .i64 sk2, .int .i64 sy2, .slice b2 fn2 d2] 52) (.cells #[.int .i64 0, .int .i64 0] 58) := by rw [hW]; exact Bx4.new w _ _ _ _
  have HK : Hid (∀ w', Below W.heap.size W w' → Bx4 w' w.heap.size (.cells #[.int .i64 he, .int .i64 hp, .int .i64 ho, .int .i64 hn, .int .i64 hv] 43) (.cells #[.int .i64 e1, .bool hl1, .string l1, .int .i64 v1, .int .i64 o1, .int .i64 p1, .bool so1, .bool st1, .int .i64 sv1, .slice a1 pn1 c1, .bool sx1, .int .i64 sk1, .int .i64 sy1, .slice b1 fn1 d1] 52) (.cells #[.int .i64 e2, .bool hl2, .string l2, .int .i64 v2, .int .i64 o2, .int .i64 p2, .bool so2, .bool st2, .int .i64 sv2, .slice a2 pn2 c2, .bool sx2, .int .i64 sk2, .int .i64 sy2, .slice b2 fn2 d2] 52) (.cells #[.int .i64 0, .int .i64 0] 58)) := fun w' hb => B0.below hb
  obtain ⟨h0, g1, h2, h3, h4⟩ := five_cells B0.b0
  obtain ⟨⟨r0, r1, r2, r3, r4, r5, r6, r7, r8, r9, r10, r11, r12, r13⟩, -⟩ := fourteen B0.b1
  clear hW B0
  go_enter Tryz.func14, Tryz.ntmps14
  go_upto_region 1 with fail
  rw [HW.out]
  go_wp2_with fail
  refine (HS1 _ hB).mono ?_
  rintro x w1 ⟨rfl, hb1⟩
  clear HS1 h0 g1 h2 h3 h4 r0 r1 r2 r3 r4 r5 r6 r7 r8 r9 r10 r11 r12 r13
  obtain ⟨W1, hW1⟩ : ∃ W1, W1 = w1.alloc (.cells #[.int .i64 0, .int .i64 k1, .bool f1, .string t1, .int .i64 x1, .int .i64 y1, .int .i64 z1] 41) := ⟨_, rfl⟩
  have HW1 : Hid (w1.alloc (.cells #[.int .i64 0, .int .i64 k1, .bool f1, .string t1, .int .i64 x1, .int .i64 y1, .int .i64 z1] 41) = W1) := hW1.symm
  have hC1 : Below W.heap.size W W1 := by rw [hW1]; exact hb1.alloc hb1.size _
  have X1 : W1.heap[w1.heap.size]? = some (.cells #[.int .i64 0, .int .i64 k1, .bool f1, .string t1, .int .i64 x1, .int .i64 y1, .int .i64 z1] 41) := by rw [hW1]; exact heap_alloc_new _ _
  have hg1 : w.heap.size + 3 < w1.heap.size := (Array.getElem?_eq_some_iff.1 (HK.out _ hb1).b3).1
  have hn1 : ¬ (w1.heap.size = w.heap.size + 3) := by omega
  have hn1' : ¬ (w.heap.size + 3 = w1.heap.size) := by omega
  clear hW1 hb1
  go_upto_region 2 with fail
  rw [HW1.out]
  obtain ⟨u0, u1, u2, u3, u4, u5, u6, -⟩ := seven_cells X1
  have hq : (q2 != 0) = true := code_ne h
  obtain ⟨h0, g1, h2, h3, h4⟩ := five_cells (HK.out _ hC1).b0
  obtain ⟨⟨r0, r1, r2, r3, r4, r5, r6, r7, r8, r9, r10, r11, r12, r13⟩, -⟩ := fourteen (HK.out _ hC1).b2
  go_wp2_with fail
  refine (HS2 _ (below_after_of hB hC1)).mono ?_
  rintro x w2 ⟨rfl, hb2⟩
  clear HS2 h0 g1 h2 h3 h4 r0 r1 r2 r3 r4 r5 r6 r7 r8 r9 r10 r11 r12 r13 u0 u1 u2 u3 u4 u5 u6
  obtain ⟨W2, hW2⟩ : ∃ W2, W2 = w2.alloc (.cells #[.int .i64 q2, .int .i64 k2, .bool f2, .string t2, .int .i64 x2, .int .i64 y2, .int .i64 z2] 41) := ⟨_, rfl⟩
  have HW2 : Hid (w2.alloc (.cells #[.int .i64 q2, .int .i64 k2, .bool f2, .string t2, .int .i64 x2, .int .i64 y2, .int .i64 z2] 41) = W2) := hW2.symm
  have hb2' : Below W1.heap.size W1 W2 := by rw [hW2]; exact hb2.alloc hb2.size _
  have hC2 := below_after_of hC1 hb2'
  have X2 : W2.heap[w2.heap.size]? = some (.cells #[.int .i64 q2, .int .i64 k2, .bool f2, .string t2, .int .i64 x2, .int .i64 y2, .int .i64 z2] 41) := by rw [hW2]; exact heap_alloc_new _ _
  have hg2 : w1.heap.size < w2.heap.size := Nat.lt_of_lt_of_le (Array.getElem?_eq_some_iff.1 X1).1 hb2.size
  have X1 := (hb2'.block _ (Array.getElem?_eq_some_iff.1 X1).1).trans X1
  have hn2 : ¬ (w2.heap.size = w.heap.size + 3) := by omega
  have hn2' : ¬ (w.heap.size + 3 = w2.heap.size) := by omega
  have hn3 : ¬ (w2.heap.size = w1.heap.size) := by omega
  have hn3' : ¬ (w1.heap.size = w2.heap.size) := by omega
  clear hW2 hb2 hb2'
  go_upto_region 5 with fail
  rw [HW2.out]
  obtain ⟨u0, u1, u2, u3, u4, u5, u6, -⟩ := seven_cells X1
  obtain ⟨s0, s1, s2, s3, s4, s5, s6, -⟩ := seven_cells X2
  obtain ⟨c0, c1, e0, e1⟩ := two_cells (HK.out _ hC2).b3
  have hBB := below_after_of hB hC2
  clear HK hC1 hC2 X1 X2 h
  go_wp2
  exact bodyPost_ret (v := .agg #[.int .i64 q2, .int .i64 0]) (by simp [results, Tryz.results14, go_sem, *]) rfl ⟨rfl, (hBB.setCell (by dsimp only; omega) _).setCell (by dsimp only; omega) _⟩
set_option maxRecDepth 100000 in
set_option maxHeartbeats 4000000 in
theorem both_3 (he hp ho hn hv : Int) (s : ByteArray) (e1 : Int) (hl1 : Bool) (l1 : ByteArray) (v1 o1 p1 : Int) (so1 st1 : Bool) (sv1 : Int) (a1 : Option Addr) (pn1 c1 : Nat) (sx1 : Bool) (sk1 sy1 : Int) (b1 : Option Addr) (fn1 d1 : Nat) (e2 : Int) (hl2 : Bool) (l2 : ByteArray) (v2 o2 p2 : Int) (so2 st2 : Bool) (sv2 : Int) (a2 : Option Addr) (pn2 c2 : Nat) (sx2 : Bool) (sk2 sy2 : Int) (b2 : Option Addr) (fn2 d2 : Nat) (k1 : Int) (f1 : Bool) (t1 : ByteArray) (x1 y1 z1 : Int) (k2 : Int) (f2 : Bool) (t2 : ByteArray) (x2 y2 z2 : Int) (w : World) (HS1 : ∀ w', Below w.heap.size w w' → Calls Tryz.prog 8 #[.agg #[.int .i64 he, .int .i64 hp, .int .i64 ho, .int .i64 hn, .int .i64 hv], .string s, .agg #[.int .i64 e1, .bool hl1, .string l1, .int .i64 v1, .int .i64 o1, .int .i64 p1, .bool so1, .bool st1, .int .i64 sv1, .slice a1 pn1 c1, .bool sx1, .int .i64 sk1, .int .i64 sy1, .slice b1 fn1 d1]] w' fun x w'' => x = .returned (.agg #[.int .i64 0, .int .i64 k1, .bool f1, .string t1, .int .i64 x1, .int .i64 y1, .int .i64 z1]) ∧ Below w'.heap.size w' w'') (HS2 : ∀ w', Below w.heap.size w w' → Calls Tryz.prog 8 #[.agg #[.int .i64 he, .int .i64 hp, .int .i64 ho, .int .i64 hn, .int .i64 hv], .string s, .agg #[.int .i64 e2, .bool hl2, .string l2, .int .i64 v2, .int .i64 o2, .int .i64 p2, .bool so2, .bool st2, .int .i64 sv2, .slice a2 pn2 c2, .bool sx2, .int .i64 sk2, .int .i64 sy2, .slice b2 fn2 d2]] w' fun x w'' => x = .returned (.agg #[.int .i64 0, .int .i64 k2, .bool f2, .string t2, .int .i64 x2, .int .i64 y2, .int .i64 z2]) ∧ Below w'.heap.size w' w'') (h : anQ k1 f1 t1 x1 y1 z1 k2 f2 t2 x2 y2 z2 = true) :
    Calls Tryz.prog 14 #[.agg #[.int .i64 he, .int .i64 hp, .int .i64 ho, .int .i64 hn, .int .i64 hv], .string s, .agg #[.int .i64 e1, .bool hl1, .string l1, .int .i64 v1, .int .i64 o1, .int .i64 p1, .bool so1, .bool st1, .int .i64 sv1, .slice a1 pn1 c1, .bool sx1, .int .i64 sk1, .int .i64 sy1, .slice b1 fn1 d1], .agg #[.int .i64 e2, .bool hl2, .string l2, .int .i64 v2, .int .i64 o2, .int .i64 p2, .bool so2, .bool st2, .int .i64 sv2, .slice a2 pn2 c2, .bool sx2, .int .i64 sk2, .int .i64 sy2, .slice b2 fn2 d2]] w fun x w' => x = .returned (.agg #[.int .i64 0, .int .i64 1]) ∧ Below w.heap.size w w' := by
  obtain ⟨W, hW⟩ : ∃ W, W = (((w.alloc (.cells #[.int .i64 he, .int .i64 hp, .int .i64 ho, .int .i64 hn, .int .i64 hv] 43)).alloc (.cells #[.int .i64 e1, .bool hl1, .string l1, .int .i64 v1, .int .i64 o1, .int .i64 p1, .bool so1, .bool st1, .int .i64 sv1, .slice a1 pn1 c1, .bool sx1, .int .i64 sk1, .int .i64 sy1, .slice b1 fn1 d1] 52)).alloc (.cells #[.int .i64 e2, .bool hl2, .string l2, .int .i64 v2, .int .i64 o2, .int .i64 p2, .bool so2, .bool st2, .int .i64 sv2, .slice a2 pn2 c2, .bool sx2, .int .i64 sk2, .int .i64 sy2, .slice b2 fn2 d2] 52)).alloc (.cells #[.int .i64 0, .int .i64 0] 58) := ⟨_, rfl⟩
  have HW : Hid ((((w.alloc (.cells #[.int .i64 he, .int .i64 hp, .int .i64 ho, .int .i64 hn, .int .i64 hv] 43)).alloc (.cells #[.int .i64 e1, .bool hl1, .string l1, .int .i64 v1, .int .i64 o1, .int .i64 p1, .bool so1, .bool st1, .int .i64 sv1, .slice a1 pn1 c1, .bool sx1, .int .i64 sk1, .int .i64 sy1, .slice b1 fn1 d1] 52)).alloc (.cells #[.int .i64 e2, .bool hl2, .string l2, .int .i64 v2, .int .i64 o2, .int .i64 p2, .bool so2, .bool st2, .int .i64 sv2, .slice a2 pn2 c2, .bool sx2, .int .i64 sk2, .int .i64 sy2, .slice b2 fn2 d2] 52)).alloc (.cells #[.int .i64 0, .int .i64 0] 58) = W) := hW.symm
  have hB : Below w.heap.size w W := by rw [hW]; exact four_newB _ _ _ _
  have B0 : Bx4 W w.heap.size (.cells #[.int .i64 he, .int .i64 hp, .int .i64 ho, .int .i64 hn, .int .i64 hv] 43) (.cells #[.int .i64 e1, .bool hl1, .string l1, .int .i64 v1, .int .i64 o1, .int .i64 p1, .bool so1, .bool st1, .int .i64 sv1, .slice a1 pn1 c1, .bool sx1, .int .i64 sk1, .int .i64 sy1, .slice b1 fn1 d1] 52) (.cells #[.int .i64 e2, .bool hl2, .string l2, .int .i64 v2, .int .i64 o2, .int .i64 p2, .bool so2, .bool st2, .int .i64 sv2, .slice a2 pn2 c2, .bool sx2, .int .i64 sk2, .int .i64 sy2, .slice b2 fn2 d2] 52) (.cells #[.int .i64 0, .int .i64 0] 58) := by rw [hW]; exact Bx4.new w _ _ _ _
  have HK : Hid (∀ w', Below W.heap.size W w' → Bx4 w' w.heap.size (.cells #[.int .i64 he, .int .i64 hp, .int .i64 ho, .int .i64 hn, .int .i64 hv] 43) (.cells #[.int .i64 e1, .bool hl1, .string l1, .int .i64 v1, .int .i64 o1, .int .i64 p1, .bool so1, .bool st1, .int .i64 sv1, .slice a1 pn1 c1, .bool sx1, .int .i64 sk1, .int .i64 sy1, .slice b1 fn1 d1] 52) (.cells #[.int .i64 e2, .bool hl2, .string l2, .int .i64 v2, .int .i64 o2, .int .i64 p2, .bool so2, .bool st2, .int .i64 sv2, .slice a2 pn2 c2, .bool sx2, .int .i64 sk2, .int .i64 sy2, .slice b2 fn2 d2] 52) (.cells #[.int .i64 0, .int .i64 0] 58)) := fun w' hb => B0.below hb
  obtain ⟨h0, g1, h2, h3, h4⟩ := five_cells B0.b0
  obtain ⟨⟨r0, r1, r2, r3, r4, r5, r6, r7, r8, r9, r10, r11, r12, r13⟩, -⟩ := fourteen B0.b1
  clear hW B0
  go_enter Tryz.func14, Tryz.ntmps14
  go_upto_region 1 with fail
  rw [HW.out]
  go_wp2_with fail
  refine (HS1 _ hB).mono ?_
  rintro x w1 ⟨rfl, hb1⟩
  clear HS1 h0 g1 h2 h3 h4 r0 r1 r2 r3 r4 r5 r6 r7 r8 r9 r10 r11 r12 r13
  obtain ⟨W1, hW1⟩ : ∃ W1, W1 = w1.alloc (.cells #[.int .i64 0, .int .i64 k1, .bool f1, .string t1, .int .i64 x1, .int .i64 y1, .int .i64 z1] 41) := ⟨_, rfl⟩
  have HW1 : Hid (w1.alloc (.cells #[.int .i64 0, .int .i64 k1, .bool f1, .string t1, .int .i64 x1, .int .i64 y1, .int .i64 z1] 41) = W1) := hW1.symm
  have hC1 : Below W.heap.size W W1 := by rw [hW1]; exact hb1.alloc hb1.size _
  have X1 : W1.heap[w1.heap.size]? = some (.cells #[.int .i64 0, .int .i64 k1, .bool f1, .string t1, .int .i64 x1, .int .i64 y1, .int .i64 z1] 41) := by rw [hW1]; exact heap_alloc_new _ _
  have hg1 : w.heap.size + 3 < w1.heap.size := (Array.getElem?_eq_some_iff.1 (HK.out _ hb1).b3).1
  have hn1 : ¬ (w1.heap.size = w.heap.size + 3) := by omega
  have hn1' : ¬ (w.heap.size + 3 = w1.heap.size) := by omega
  clear hW1 hb1
  go_upto_region 2 with fail
  rw [HW1.out]
  obtain ⟨u0, u1, u2, u3, u4, u5, u6, -⟩ := seven_cells X1
  have hQ := fun w => answer_eq k1 f1 t1 x1 y1 z1 k2 f2 t2 x2 y2 z2 w
  rw [h] at hQ
  obtain ⟨h0, g1, h2, h3, h4⟩ := five_cells (HK.out _ hC1).b0
  obtain ⟨⟨r0, r1, r2, r3, r4, r5, r6, r7, r8, r9, r10, r11, r12, r13⟩, -⟩ := fourteen (HK.out _ hC1).b2
  go_wp2_with fail
  refine (HS2 _ (below_after_of hB hC1)).mono ?_
  rintro x w2 ⟨rfl, hb2⟩
  clear HS2 h0 g1 h2 h3 h4 r0 r1 r2 r3 r4 r5 r6 r7 r8 r9 r10 r11 r12 r13 u0 u1 u2 u3 u4 u5 u6
  obtain ⟨W2, hW2⟩ : ∃ W2, W2 = w2.alloc (.cells #[.int .i64 0, .int .i64 k2, .bool f2, .string t2, .int .i64 x2, .int .i64 y2, .int .i64 z2] 41) := ⟨_, rfl⟩
  have HW2 : Hid (w2.alloc (.cells #[.int .i64 0, .int .i64 k2, .bool f2, .string t2, .int .i64 x2, .int .i64 y2, .int .i64 z2] 41) = W2) := hW2.symm
  have hb2' : Below W1.heap.size W1 W2 := by rw [hW2]; exact hb2.alloc hb2.size _
  have hC2 := below_after_of hC1 hb2'
  have X2 : W2.heap[w2.heap.size]? = some (.cells #[.int .i64 0, .int .i64 k2, .bool f2, .string t2, .int .i64 x2, .int .i64 y2, .int .i64 z2] 41) := by rw [hW2]; exact heap_alloc_new _ _
  have hg2 : w1.heap.size < w2.heap.size := Nat.lt_of_lt_of_le (Array.getElem?_eq_some_iff.1 X1).1 hb2.size
  have X1 := (hb2'.block _ (Array.getElem?_eq_some_iff.1 X1).1).trans X1
  have hn2 : ¬ (w2.heap.size = w.heap.size + 3) := by omega
  have hn2' : ¬ (w.heap.size + 3 = w2.heap.size) := by omega
  have hn3 : ¬ (w2.heap.size = w1.heap.size) := by omega
  have hn3' : ¬ (w1.heap.size = w2.heap.size) := by omega
  clear hW2 hb2 hb2'
  go_upto_region 5 with fail
  rw [HW2.out]
  obtain ⟨u0, u1, u2, u3, u4, u5, u6, -⟩ := seven_cells X1
  obtain ⟨s0, s1, s2, s3, s4, s5, s6, -⟩ := seven_cells X2
  obtain ⟨c0, c1, e0, e1⟩ := two_cells (HK.out _ hC2).b3
  have hBB := below_after_of hB hC2
  clear HK hC1 hC2 X1 X2 h
  go_wp2
  exact bodyPost_ret (v := .agg #[.int .i64 0, .int .i64 1]) (by simp [results, Tryz.results14, go_sem, *]) rfl ⟨rfl, (hBB.setCell (by dsimp only; omega) _).setCell (by dsimp only; omega) _⟩
set_option maxRecDepth 100000 in
set_option maxHeartbeats 4000000 in
theorem both_4 (he hp ho hn hv : Int) (s : ByteArray) (e1 : Int) (hl1 : Bool) (l1 : ByteArray) (v1 o1 p1 : Int) (so1 st1 : Bool) (sv1 : Int) (a1 : Option Addr) (pn1 c1 : Nat) (sx1 : Bool) (sk1 sy1 : Int) (b1 : Option Addr) (fn1 d1 : Nat) (e2 : Int) (hl2 : Bool) (l2 : ByteArray) (v2 o2 p2 : Int) (so2 st2 : Bool) (sv2 : Int) (a2 : Option Addr) (pn2 c2 : Nat) (sx2 : Bool) (sk2 sy2 : Int) (b2 : Option Addr) (fn2 d2 : Nat) (k1 : Int) (f1 : Bool) (t1 : ByteArray) (x1 y1 z1 : Int) (k2 : Int) (f2 : Bool) (t2 : ByteArray) (x2 y2 z2 : Int) (w : World) (HS1 : ∀ w', Below w.heap.size w w' → Calls Tryz.prog 8 #[.agg #[.int .i64 he, .int .i64 hp, .int .i64 ho, .int .i64 hn, .int .i64 hv], .string s, .agg #[.int .i64 e1, .bool hl1, .string l1, .int .i64 v1, .int .i64 o1, .int .i64 p1, .bool so1, .bool st1, .int .i64 sv1, .slice a1 pn1 c1, .bool sx1, .int .i64 sk1, .int .i64 sy1, .slice b1 fn1 d1]] w' fun x w'' => x = .returned (.agg #[.int .i64 0, .int .i64 k1, .bool f1, .string t1, .int .i64 x1, .int .i64 y1, .int .i64 z1]) ∧ Below w'.heap.size w' w'') (HS2 : ∀ w', Below w.heap.size w w' → Calls Tryz.prog 8 #[.agg #[.int .i64 he, .int .i64 hp, .int .i64 ho, .int .i64 hn, .int .i64 hv], .string s, .agg #[.int .i64 e2, .bool hl2, .string l2, .int .i64 v2, .int .i64 o2, .int .i64 p2, .bool so2, .bool st2, .int .i64 sv2, .slice a2 pn2 c2, .bool sx2, .int .i64 sk2, .int .i64 sy2, .slice b2 fn2 d2]] w' fun x w'' => x = .returned (.agg #[.int .i64 0, .int .i64 k2, .bool f2, .string t2, .int .i64 x2, .int .i64 y2, .int .i64 z2]) ∧ Below w'.heap.size w' w'') (h : anQ k1 f1 t1 x1 y1 z1 k2 f2 t2 x2 y2 z2 = false) :
    Calls Tryz.prog 14 #[.agg #[.int .i64 he, .int .i64 hp, .int .i64 ho, .int .i64 hn, .int .i64 hv], .string s, .agg #[.int .i64 e1, .bool hl1, .string l1, .int .i64 v1, .int .i64 o1, .int .i64 p1, .bool so1, .bool st1, .int .i64 sv1, .slice a1 pn1 c1, .bool sx1, .int .i64 sk1, .int .i64 sy1, .slice b1 fn1 d1], .agg #[.int .i64 e2, .bool hl2, .string l2, .int .i64 v2, .int .i64 o2, .int .i64 p2, .bool so2, .bool st2, .int .i64 sv2, .slice a2 pn2 c2, .bool sx2, .int .i64 sk2, .int .i64 sy2, .slice b2 fn2 d2]] w fun x w' => x = .returned (.agg #[.int .i64 0, .int .i64 2]) ∧ Below w.heap.size w w' := by
  obtain ⟨W, hW⟩ : ∃ W, W = (((w.alloc (.cells #[.int .i64 he, .int .i64 hp, .int .i64 ho, .int .i64 hn, .int .i64 hv] 43)).alloc (.cells #[.int .i64 e1, .bool hl1, .string l1, .int .i64 v1, .int .i64 o1, .int .i64 p1, .bool so1, .bool st1, .int .i64 sv1, .slice a1 pn1 c1, .bool sx1, .int .i64 sk1, .int .i64 sy1, .slice b1 fn1 d1] 52)).alloc (.cells #[.int .i64 e2, .bool hl2, .string l2, .int .i64 v2, .int .i64 o2, .int .i64 p2, .bool so2, .bool st2, .int .i64 sv2, .slice a2 pn2 c2, .bool sx2, .int .i64 sk2, .int .i64 sy2, .slice b2 fn2 d2] 52)).alloc (.cells #[.int .i64 0, .int .i64 0] 58) := ⟨_, rfl⟩
  have HW : Hid ((((w.alloc (.cells #[.int .i64 he, .int .i64 hp, .int .i64 ho, .int .i64 hn, .int .i64 hv] 43)).alloc (.cells #[.int .i64 e1, .bool hl1, .string l1, .int .i64 v1, .int .i64 o1, .int .i64 p1, .bool so1, .bool st1, .int .i64 sv1, .slice a1 pn1 c1, .bool sx1, .int .i64 sk1, .int .i64 sy1, .slice b1 fn1 d1] 52)).alloc (.cells #[.int .i64 e2, .bool hl2, .string l2, .int .i64 v2, .int .i64 o2, .int .i64 p2, .bool so2, .bool st2, .int .i64 sv2, .slice a2 pn2 c2, .bool sx2, .int .i64 sk2, .int .i64 sy2, .slice b2 fn2 d2] 52)).alloc (.cells #[.int .i64 0, .int .i64 0] 58) = W) := hW.symm
  have hB : Below w.heap.size w W := by rw [hW]; exact four_newB _ _ _ _
  have B0 : Bx4 W w.heap.size (.cells #[.int .i64 he, .int .i64 hp, .int .i64 ho, .int .i64 hn, .int .i64 hv] 43) (.cells #[.int .i64 e1, .bool hl1, .string l1, .int .i64 v1, .int .i64 o1, .int .i64 p1, .bool so1, .bool st1, .int .i64 sv1, .slice a1 pn1 c1, .bool sx1, .int .i64 sk1, .int .i64 sy1, .slice b1 fn1 d1] 52) (.cells #[.int .i64 e2, .bool hl2, .string l2, .int .i64 v2, .int .i64 o2, .int .i64 p2, .bool so2, .bool st2, .int .i64 sv2, .slice a2 pn2 c2, .bool sx2, .int .i64 sk2, .int .i64 sy2, .slice b2 fn2 d2] 52) (.cells #[.int .i64 0, .int .i64 0] 58) := by rw [hW]; exact Bx4.new w _ _ _ _
  have HK : Hid (∀ w', Below W.heap.size W w' → Bx4 w' w.heap.size (.cells #[.int .i64 he, .int .i64 hp, .int .i64 ho, .int .i64 hn, .int .i64 hv] 43) (.cells #[.int .i64 e1, .bool hl1, .string l1, .int .i64 v1, .int .i64 o1, .int .i64 p1, .bool so1, .bool st1, .int .i64 sv1, .slice a1 pn1 c1, .bool sx1, .int .i64 sk1, .int .i64 sy1, .slice b1 fn1 d1] 52) (.cells #[.int .i64 e2, .bool hl2, .string l2, .int .i64 v2, .int .i64 o2, .int .i64 p2, .bool so2, .bool st2, .int .i64 sv2, .slice a2 pn2 c2, .bool sx2, .int .i64 sk2, .int .i64 sy2, .slice b2 fn2 d2] 52) (.cells #[.int .i64 0, .int .i64 0] 58)) := fun w' hb => B0.below hb
  obtain ⟨h0, g1, h2, h3, h4⟩ := five_cells B0.b0
  obtain ⟨⟨r0, r1, r2, r3, r4, r5, r6, r7, r8, r9, r10, r11, r12, r13⟩, -⟩ := fourteen B0.b1
  clear hW B0
  go_enter Tryz.func14, Tryz.ntmps14
  go_upto_region 1 with fail
  rw [HW.out]
  go_wp2_with fail
  refine (HS1 _ hB).mono ?_
  rintro x w1 ⟨rfl, hb1⟩
  clear HS1 h0 g1 h2 h3 h4 r0 r1 r2 r3 r4 r5 r6 r7 r8 r9 r10 r11 r12 r13
  obtain ⟨W1, hW1⟩ : ∃ W1, W1 = w1.alloc (.cells #[.int .i64 0, .int .i64 k1, .bool f1, .string t1, .int .i64 x1, .int .i64 y1, .int .i64 z1] 41) := ⟨_, rfl⟩
  have HW1 : Hid (w1.alloc (.cells #[.int .i64 0, .int .i64 k1, .bool f1, .string t1, .int .i64 x1, .int .i64 y1, .int .i64 z1] 41) = W1) := hW1.symm
  have hC1 : Below W.heap.size W W1 := by rw [hW1]; exact hb1.alloc hb1.size _
  have X1 : W1.heap[w1.heap.size]? = some (.cells #[.int .i64 0, .int .i64 k1, .bool f1, .string t1, .int .i64 x1, .int .i64 y1, .int .i64 z1] 41) := by rw [hW1]; exact heap_alloc_new _ _
  have hg1 : w.heap.size + 3 < w1.heap.size := (Array.getElem?_eq_some_iff.1 (HK.out _ hb1).b3).1
  have hn1 : ¬ (w1.heap.size = w.heap.size + 3) := by omega
  have hn1' : ¬ (w.heap.size + 3 = w1.heap.size) := by omega
  clear hW1 hb1
  go_upto_region 2 with fail
  rw [HW1.out]
  obtain ⟨u0, u1, u2, u3, u4, u5, u6, -⟩ := seven_cells X1
  have hQ := fun w => answer_eq k1 f1 t1 x1 y1 z1 k2 f2 t2 x2 y2 z2 w
  rw [h] at hQ
  obtain ⟨h0, g1, h2, h3, h4⟩ := five_cells (HK.out _ hC1).b0
  obtain ⟨⟨r0, r1, r2, r3, r4, r5, r6, r7, r8, r9, r10, r11, r12, r13⟩, -⟩ := fourteen (HK.out _ hC1).b2
  go_wp2_with fail
  refine (HS2 _ (below_after_of hB hC1)).mono ?_
  rintro x w2 ⟨rfl, hb2⟩
  clear HS2 h0 g1 h2 h3 h4 r0 r1 r2 r3 r4 r5 r6 r7 r8 r9 r10 r11 r12 r13 u0 u1 u2 u3 u4 u5 u6
  obtain ⟨W2, hW2⟩ : ∃ W2, W2 = w2.alloc (.cells #[.int .i64 0, .int .i64 k2, .bool f2, .string t2, .int .i64 x2, .int .i64 y2, .int .i64 z2] 41) := ⟨_, rfl⟩
  have HW2 : Hid (w2.alloc (.cells #[.int .i64 0, .int .i64 k2, .bool f2, .string t2, .int .i64 x2, .int .i64 y2, .int .i64 z2] 41) = W2) := hW2.symm
  have hb2' : Below W1.heap.size W1 W2 := by rw [hW2]; exact hb2.alloc hb2.size _
  have hC2 := below_after_of hC1 hb2'
  have X2 : W2.heap[w2.heap.size]? = some (.cells #[.int .i64 0, .int .i64 k2, .bool f2, .string t2, .int .i64 x2, .int .i64 y2, .int .i64 z2] 41) := by rw [hW2]; exact heap_alloc_new _ _
  have hg2 : w1.heap.size < w2.heap.size := Nat.lt_of_lt_of_le (Array.getElem?_eq_some_iff.1 X1).1 hb2.size
  have X1 := (hb2'.block _ (Array.getElem?_eq_some_iff.1 X1).1).trans X1
  have hn2 : ¬ (w2.heap.size = w.heap.size + 3) := by omega
  have hn2' : ¬ (w.heap.size + 3 = w2.heap.size) := by omega
  have hn3 : ¬ (w2.heap.size = w1.heap.size) := by omega
  have hn3' : ¬ (w1.heap.size = w2.heap.size) := by omega
  clear hW2 hb2 hb2'
  go_upto_region 5 with fail
  rw [HW2.out]
  obtain ⟨u0, u1, u2, u3, u4, u5, u6, -⟩ := seven_cells X1
  obtain ⟨s0, s1, s2, s3, s4, s5, s6, -⟩ := seven_cells X2
  obtain ⟨c0, c1, e0, e1⟩ := two_cells (HK.out _ hC2).b3
  have hBB := below_after_of hB hC2
  clear HK hC1 hC2 X1 X2 h
  go_wp2
  exact bodyPost_ret (v := .agg #[.int .i64 0, .int .i64 2]) (by simp [results, Tryz.results14, go_sem, *]) rfl ⟨rfl, (hBB.setCell (by dsimp only; omega) _).setCell (by dsimp only; omega) _⟩
end U
end Go.Proofs.YtdbbmclobmigdaaGreat

/- A reply's size, whatever is left ahead of it. -/
namespace Go.Proofs.YtdbbmclobmigdaaGreat
open Go.RowKit
namespace U
set_option maxRecDepth 100000 in
set_option maxHeartbeats 1000000 in
theorem szRecord_gen (zz : Nat) (hzz : zz ≤ 1048576) (l : ByteArray) (v o p : Int) (w : World) (hs : l.size ≤ maxLen) :
    Calls Tryz.prog 30 #[recV l v o p, .int .i64 (zz : Int)] w fun e w' => e = .returned (.int .i64 (if l.size ≤ zz then ((zz : Int) - (l.size : Int)) else -1)) ∧ Below w.heap.size w w' := by
  unfold recV
  unfold maxLen at hs
  have h := RecAt.new w l v o p 25
  have hw : IntKind.i64.wrap ((zz : Int) - (l.size : Int)) = (zz : Int) - (l.size : Int) := by rw [IntKind.wrap_i64]; omega
  by_cases h1 : l.size ≤ zz
  · rw [if_pos h1]
    have h2 : ¬ ((zz : Int) - (l.size : Int) < 0) := by omega
    go_enter Tryz.func30, Tryz.ntmps30
    go_wp2
    go_ret
    exact ⟨rfl, one_new _⟩
  · rw [if_neg h1]
    have h2 : (zz : Int) - (l.size : Int) < 0 := by omega
    go_enter Tryz.func30, Tryz.ntmps30
    go_wp2
    go_ret
    exact ⟨rfl, one_new _⟩
set_option maxRecDepth 100000 in
set_option maxHeartbeats 4000000 in
theorem szReply_gen (zz : Nat) (hzz : zz ≤ 1048576) (e : Int) (hl : Bool) (l : ByteArray) (v o p : Int) (so st : Bool) (sv : Int) (a : Option Addr) (pn c : Nat) (sx : Bool) (sk sy : Int) (a' : Option Addr) (fn c' : Nat) (w : World) (hs : l.size ≤ maxLen) (hp : pn ≤ maxLen) (hf : fn ≤ maxLen) :
    Calls Tryz.prog 7 #[.agg #[.int .i64 e, .bool hl, .string l, .int .i64 v, .int .i64 o, .int .i64 p, .bool so, .bool st, .int .i64 sv, .slice a pn c, .bool sx, .int .i64 sk, .int .i64 sy, .slice a' fn c'], .int .i64 (zz : Int)] w fun x w' => x = .returned (.int .i64 (if l.size + pn + fn ≤ zz then ((zz : Int) - (l.size : Int) - (pn : Int) - (fn : Int)) else -1)) ∧ Below w.heap.size w w' := by
  have hR := fun w => szRecord_gen zz hzz l v o p w hs
  unfold recV at hR
  obtain ⟨⟨c0, c1, c2, c3, c4, c5, c6, c7, c8, c9, c10, c11, c12, c13⟩, -⟩ := fourteen (heap_alloc_new w (.cells #[.int .i64 e, .bool hl, .string l, .int .i64 v, .int .i64 o, .int .i64 p, .bool so, .bool st, .int .i64 sv, .slice a pn c, .bool sx, .int .i64 sk, .int .i64 sy, .slice a' fn c'] 35))
  have hB0 := one_new (w := w) (.cells #[.int .i64 e, .bool hl, .string l, .int .i64 v, .int .i64 o, .int .i64 p, .bool so, .bool st, .int .i64 sv, .slice a pn c, .bool sx, .int .i64 sk, .int .i64 sy, .slice a' fn c'] 35)
  have HF : Hid (∀ w', Below (w.alloc (.cells #[.int .i64 e, .bool hl, .string l, .int .i64 v, .int .i64 o, .int .i64 p, .bool so, .bool st, .int .i64 sv, .slice a pn c, .bool sx, .int .i64 sk, .int .i64 sy, .slice a' fn c'] 35)).heap.size (w.alloc (.cells #[.int .i64 e, .bool hl, .string l, .int .i64 v, .int .i64 o, .int .i64 p, .bool so, .bool st, .int .i64 sv, .slice a pn c, .bool sx, .int .i64 sk, .int .i64 sy, .slice a' fn c'] 35)) w' → w'.heap[w.heap.size]? = some (.cells #[.int .i64 e, .bool hl, .string l, .int .i64 v, .int .i64 o, .int .i64 p, .bool so, .bool st, .int .i64 sv, .slice a pn c, .bool sx, .int .i64 sk, .int .i64 sy, .slice a' fn c'] 35)) := fun w' hb => (hb.block w.heap.size (by simp)).trans (heap_alloc_new w _)
  by_cases h1 : l.size ≤ zz
  · rw [if_pos h1] at hR
    have hS := fun w => szSaid_gen (zz - l.size) (by omega) so st sv a pn c sx sk sy a' fn c' w hp hf
    rw [show ((zz - l.size : Nat) : Int) = ((zz : Int) - (l.size : Int)) by omega] at hS
    have hz : ¬ (((zz : Int) - (l.size : Int)) < 0) := by omega
    by_cases h2 : pn + fn ≤ zz - l.size
    · rw [if_pos h2] at hS
      rw [if_pos (by omega)]
      have hz2 : ¬ (((zz : Int) - (l.size : Int) - (pn : Int) - (fn : Int)) < 0) := by omega
      generalize ((zz : Int) - (l.size : Int) - (pn : Int) - (fn : Int)) = q2 at *
      generalize ((zz : Int) - (l.size : Int)) = q1 at *
      go_enter Tryz.func7, Tryz.ntmps7
      go_wp2_with fail
      refine (hR _).mono ?_
      rintro x w1 ⟨rfl, hb1⟩
      have hB1 := below_after_of hB0 hb1
      obtain ⟨⟨c0, c1, c2, c3, c4, c5, c6, c7, c8, c9, c10, c11, c12, c13⟩, -⟩ := fourteen (HF.out _ hb1)
      clear hR hb1
      go_wp2_with fail
      refine (hS _).mono ?_
      rintro x w2 ⟨rfl, hb2⟩
      have hB2 := below_after_of hB1 hb2
      clear hS hb2
      go_wp2
      go_ret
      exact ⟨rfl, hB2⟩
    · rw [if_neg h2] at hS
      rw [if_neg (by omega)]
      generalize ((zz : Int) - (l.size : Int)) = q1 at *
      go_enter Tryz.func7, Tryz.ntmps7
      go_wp2_with fail
      refine (hR _).mono ?_
      rintro x w1 ⟨rfl, hb1⟩
      have hB1 := below_after_of hB0 hb1
      obtain ⟨⟨c0, c1, c2, c3, c4, c5, c6, c7, c8, c9, c10, c11, c12, c13⟩, -⟩ := fourteen (HF.out _ hb1)
      clear hR hb1
      go_wp2_with fail
      refine (hS _).mono ?_
      rintro x w2 ⟨rfl, hb2⟩
      have hB2 := below_after_of hB1 hb2
      clear hS hb2
      go_wp2
      go_ret
      exact ⟨rfl, hB2⟩
  · rw [if_neg h1] at hR
    rw [if_neg (by omega)]
    go_enter Tryz.func7, Tryz.ntmps7
    go_wp2_with fail
    refine (hR _).mono ?_
    rintro x w1 ⟨rfl, hb1⟩
    have hB1 := below_after_of hB0 hb1
    clear hR hb1
    go_wp2
    go_ret
    exact ⟨rfl, hB1⟩
end U
end Go.Proofs.YtdbbmclobmigdaaGreat

/- Two replies held against one another, by the program: its closure, and both asked by it. -/
namespace Go.Proofs.YtdbbmclobmigdaaGreat
open Go.RowKit
namespace U
theorem put14 {w : World} {g : Nat} {a0 a1 a2 a3 a4 a5 a6 a7 a8 a9 a10 a11 a12 a13 : Value} {t : TypeId} (h : w.heap[g]? = some (.cells #[a0, a1, a2, a3, a4, a5, a6, a7, a8, a9, a10, a11, a12, a13] t)) (b0 b1 b2 b3 b4 b5 b6 b7 b8 b9 b10 b11 b12 b13 : Value) : ((((((((((((((w.setCell ⟨g, 0, none⟩ b0).setCell ⟨g, 1, none⟩ b1).setCell ⟨g, 2, none⟩ b2).setCell ⟨g, 3, none⟩ b3).setCell ⟨g, 4, none⟩ b4).setCell ⟨g, 5, none⟩ b5).setCell ⟨g, 6, none⟩ b6).setCell ⟨g, 7, none⟩ b7).setCell ⟨g, 8, none⟩ b8).setCell ⟨g, 9, none⟩ b9).setCell ⟨g, 10, none⟩ b10).setCell ⟨g, 11, none⟩ b11).setCell ⟨g, 12, none⟩ b12).setCell ⟨g, 13, none⟩ b13).heap[g]? = some (.cells #[b0, b1, b2, b3, b4, b5, b6, b7, b8, b9, b10, b11, b12, b13] t) := by
  have h0 := heap_setCell_same _ g 0 _ _ b0 h
  have h1 := heap_setCell_same _ g 1 _ _ b1 h0
  have h2 := heap_setCell_same _ g 2 _ _ b2 h1
  have h3 := heap_setCell_same _ g 3 _ _ b3 h2
  have h4 := heap_setCell_same _ g 4 _ _ b4 h3
  have h5 := heap_setCell_same _ g 5 _ _ b5 h4
  have h6 := heap_setCell_same _ g 6 _ _ b6 h5
  have h7 := heap_setCell_same _ g 7 _ _ b7 h6
  have h8 := heap_setCell_same _ g 8 _ _ b8 h7
  have h9 := heap_setCell_same _ g 9 _ _ b9 h8
  have h10 := heap_setCell_same _ g 10 _ _ b10 h9
  have h11 := heap_setCell_same _ g 11 _ _ b11 h10
  have h12 := heap_setCell_same _ g 12 _ _ b12 h11
  have h13 := heap_setCell_same _ g 13 _ _ b13 h12
  simpa using h13
theorem set14 {B : Nat} {w0 w : World} {g : Nat} (h : Below B w0 w) (hg : B ≤ g) (b0 b1 b2 b3 b4 b5 b6 b7 b8 b9 b10 b11 b12 b13 : Value) : Below B w0 ((((((((((((((w.setCell ⟨g, 0, none⟩ b0).setCell ⟨g, 1, none⟩ b1).setCell ⟨g, 2, none⟩ b2).setCell ⟨g, 3, none⟩ b3).setCell ⟨g, 4, none⟩ b4).setCell ⟨g, 5, none⟩ b5).setCell ⟨g, 6, none⟩ b6).setCell ⟨g, 7, none⟩ b7).setCell ⟨g, 8, none⟩ b8).setCell ⟨g, 9, none⟩ b9).setCell ⟨g, 10, none⟩ b10).setCell ⟨g, 11, none⟩ b11).setCell ⟨g, 12, none⟩ b12).setCell ⟨g, 13, none⟩ b13) :=
  ((((((((((((((h.setCell hg _).setCell hg _).setCell hg _).setCell hg _).setCell hg _).setCell hg _).setCell hg _).setCell hg _).setCell hg _).setCell hg _).setCell hg _).setCell hg _).setCell hg _).setCell hg _)
theorem other14 {w : World} {g k : Nat} (hk : k ≠ g) (b0 b1 b2 b3 b4 b5 b6 b7 b8 b9 b10 b11 b12 b13 : Value) : ((((((((((((((w.setCell ⟨g, 0, none⟩ b0).setCell ⟨g, 1, none⟩ b1).setCell ⟨g, 2, none⟩ b2).setCell ⟨g, 3, none⟩ b3).setCell ⟨g, 4, none⟩ b4).setCell ⟨g, 5, none⟩ b5).setCell ⟨g, 6, none⟩ b6).setCell ⟨g, 7, none⟩ b7).setCell ⟨g, 8, none⟩ b8).setCell ⟨g, 9, none⟩ b9).setCell ⟨g, 10, none⟩ b10).setCell ⟨g, 11, none⟩ b11).setCell ⟨g, 12, none⟩ b12).setCell ⟨g, 13, none⟩ b13).heap[k]? = w.heap[k]? := by
  rw [heap_setCell_other _ ⟨g, 13, none⟩ k _ hk]
  rw [heap_setCell_other _ ⟨g, 12, none⟩ k _ hk]
  rw [heap_setCell_other _ ⟨g, 11, none⟩ k _ hk]
  rw [heap_setCell_other _ ⟨g, 10, none⟩ k _ hk]
  rw [heap_setCell_other _ ⟨g, 9, none⟩ k _ hk]
  rw [heap_setCell_other _ ⟨g, 8, none⟩ k _ hk]
  rw [heap_setCell_other _ ⟨g, 7, none⟩ k _ hk]
  rw [heap_setCell_other _ ⟨g, 6, none⟩ k _ hk]
  rw [heap_setCell_other _ ⟨g, 5, none⟩ k _ hk]
  rw [heap_setCell_other _ ⟨g, 4, none⟩ k _ hk]
  rw [heap_setCell_other _ ⟨g, 3, none⟩ k _ hk]
  rw [heap_setCell_other _ ⟨g, 2, none⟩ k _ hk]
  rw [heap_setCell_other _ ⟨g, 1, none⟩ k _ hk]
  rw [heap_setCell_other _ ⟨g, 0, none⟩ k _ hk]
/-- What stays while both are asked. -/
structure SbS (w w' : World) (o : Obj) : Prop where
  b : Below w.heap.size w w'
  o : w'.heap[w.heap.size]? = some o
theorem SbS.below {w w1 w2 : World} {o : Obj} (h : SbS w w1 o) (hb : Below w1.heap.size w1 w2) : SbS w w2 o := ⟨below_after_of h.b hb, (hb.block _ (Array.getElem?_eq_some_iff.1 h.o).1).trans h.o⟩
theorem SbS.put {w0 w : World} {o : Obj} (h : SbS w0 w o) (b0 b1 b2 b3 b4 b5 b6 b7 b8 b9 b10 b11 b12 b13 : Value) : SbS w0 ((((((((((((((w.setCell ⟨w0.heap.size + 1, 0, none⟩ b0).setCell ⟨w0.heap.size + 1, 1, none⟩ b1).setCell ⟨w0.heap.size + 1, 2, none⟩ b2).setCell ⟨w0.heap.size + 1, 3, none⟩ b3).setCell ⟨w0.heap.size + 1, 4, none⟩ b4).setCell ⟨w0.heap.size + 1, 5, none⟩ b5).setCell ⟨w0.heap.size + 1, 6, none⟩ b6).setCell ⟨w0.heap.size + 1, 7, none⟩ b7).setCell ⟨w0.heap.size + 1, 8, none⟩ b8).setCell ⟨w0.heap.size + 1, 9, none⟩ b9).setCell ⟨w0.heap.size + 1, 10, none⟩ b10).setCell ⟨w0.heap.size + 1, 11, none⟩ b11).setCell ⟨w0.heap.size + 1, 12, none⟩ b12).setCell ⟨w0.heap.size + 1, 13, none⟩ b13) o :=
  ⟨set14 h.b (Nat.le_succ _) _ _ _ _ _ _ _ _ _ _ _ _ _ _, (other14 (by omega) _ _ _ _ _ _ _ _ _ _ _ _ _ _).trans h.o⟩
set_option maxRecDepth 100000 in
set_option maxHeartbeats 4000000 in
theorem bothCl_any (he hp ho hn hv : Int) (s : ByteArray) (e1 : Int) (hl1 : Bool) (l1 : ByteArray) (v1 o1 p1 : Int) (so1 st1 : Bool) (sv1 : Int) (a1 : Option Addr) (pn1 c1 : Nat) (sx1 : Bool) (sk1 sy1 : Int) (b1 : Option Addr) (fn1 d1 : Nat) (q1 k1 : Int) (f1 : Bool) (t1 : ByteArray) (x1 y1 z1 : Int) (g : Nat) (w : World) (hH : HdS w g 0 ⟨he, hp, ho, hn, hv⟩) (hL : w.cell? ⟨g + 1, 0, none⟩ = some (.string s)) (hlt : g + 1 < w.heap.size) (HS1 : ∀ w', Below w.heap.size w w' → Calls Tryz.prog 11 #[.agg #[.int .i64 he, .int .i64 hp, .int .i64 ho, .int .i64 hn, .int .i64 hv], .string s, .agg #[.int .i64 e1, .bool hl1, .string l1, .int .i64 v1, .int .i64 o1, .int .i64 p1, .bool so1, .bool st1, .int .i64 sv1, .slice a1 pn1 c1, .bool sx1, .int .i64 sk1, .int .i64 sy1, .slice b1 fn1 d1]] w' fun x w'' => x = .returned (.agg #[.int .i64 q1, .int .i64 k1, .bool f1, .string t1, .int .i64 x1, .int .i64 y1, .int .i64 z1]) ∧ Below w'.heap.size w' w'') :
    Calls Tryz.prog 53 #[.agg #[.int .i64 e1, .bool hl1, .string l1, .int .i64 v1, .int .i64 o1, .int .i64 p1, .bool so1, .bool st1, .int .i64 sv1, .slice a1 pn1 c1, .bool sx1, .int .i64 sk1, .int .i64 sy1, .slice b1 fn1 d1], .pointer (some ⟨g, 0, none⟩), .pointer (some ⟨g + 1, 0, none⟩)] w fun x w' => x = .returned (.agg #[.int .i64 q1, .int .i64 k1, .bool f1, .string t1, .int .i64 x1, .int .i64 y1, .int .i64 z1]) ∧ Below w.heap.size w w' := by
  obtain ⟨W, hW⟩ : ∃ W, W = (w.alloc (.cells #[.int .i64 e1, .bool hl1, .string l1, .int .i64 v1, .int .i64 o1, .int .i64 p1, .bool so1, .bool st1, .int .i64 sv1, .slice a1 pn1 c1, .bool sx1, .int .i64 sk1, .int .i64 sy1, .slice b1 fn1 d1] 52)).alloc (.cells #[.int .i64 0, .int .i64 0, .bool false, .string ⟨#[]⟩, .int .i64 0, .int .i64 0, .int .i64 0] 41) := ⟨_, rfl⟩
  have HW : Hid ((w.alloc (.cells #[.int .i64 e1, .bool hl1, .string l1, .int .i64 v1, .int .i64 o1, .int .i64 p1, .bool so1, .bool st1, .int .i64 sv1, .slice a1 pn1 c1, .bool sx1, .int .i64 sk1, .int .i64 sy1, .slice b1 fn1 d1] 52)).alloc (.cells #[.int .i64 0, .int .i64 0, .bool false, .string ⟨#[]⟩, .int .i64 0, .int .i64 0, .int .i64 0] 41) = W) := hW.symm
  have hB : Below w.heap.size w W := by rw [hW]; exact two_new _ _
  have X0 : W.heap[w.heap.size]? = some (.cells #[.int .i64 e1, .bool hl1, .string l1, .int .i64 v1, .int .i64 o1, .int .i64 p1, .bool so1, .bool st1, .int .i64 sv1, .slice a1 pn1 c1, .bool sx1, .int .i64 sk1, .int .i64 sy1, .slice b1 fn1 d1] 52) := by rw [hW]; exact ((one_new _).block _ (by simp)).trans (heap_alloc_new w _)
  have X1 : W.heap[w.heap.size + 1]? = some (.cells #[.int .i64 0, .int .i64 0, .bool false, .string ⟨#[]⟩, .int .i64 0, .int .i64 0, .int .i64 0] 41) := by rw [hW]; exact heap_new2 w _ _
  obtain ⟨h0, h1, h2, h3, h4⟩ := hH.below hB (by omega)
  have l0 := (hB.cell (p := ⟨g + 1, 0, none⟩) hlt).trans hL
  obtain ⟨⟨r0, r1, r2, r3, r4, r5, r6, r7, r8, r9, r10, r11, r12, r13⟩, -⟩ := fourteen X0
  clear hW hH hL X0
  go_enter Tryz.func53, Tryz.ntmps53
  go_upto_region 1 with fail
  rw [HW.out]
  go_wp2_with fail
  refine (HS1 _ hB).mono ?_
  rintro x w1 ⟨rfl, hb1⟩
  have hBB := below_after_of hB hb1
  obtain ⟨c0, c1, c2, c3, c4, c5, c6, e0, e1, e2, e3, e4, e5, e6⟩ := seven_cells ((hb1.block _ (Array.getElem?_eq_some_iff.1 X1).1).trans X1)
  clear HS1 X1 hb1 hB h0 h1 h2 h3 h4 l0 r0 r1 r2 r3 r4 r5 r6 r7 r8 r9 r10 r11 r12 r13
  go_wp2
  exact bodyPost_ret (v := .agg #[.int .i64 q1, .int .i64 k1, .bool f1, .string t1, .int .i64 x1, .int .i64 y1, .int .i64 z1]) (by simp [results, Tryz.results53, go_sem, *]) rfl ⟨rfl, set7 hBB (Nat.le_succ _) _ _ _ _ _ _ _⟩
set_option maxRecDepth 100000 in
set_option maxHeartbeats 4000000 in
theorem sampledBy_any (e1 : Int) (hl1 : Bool) (l1 : ByteArray) (v1 o1 p1 : Int) (so1 st1 : Bool) (sv1 : Int) (a1 : Option Addr) (pn1 c1 : Nat) (sx1 : Bool) (sk1 sy1 : Int) (b1 : Option Addr) (fn1 d1 : Nat) (e2 : Int) (hl2 : Bool) (l2 : ByteArray) (v2 o2 p2 : Int) (so2 st2 : Bool) (sv2 : Int) (a2 : Option Addr) (pn2 c2 : Nat) (sx2 : Bool) (sk2 sy2 : Int) (b2 : Option Addr) (fn2 d2 : Nat) (q1 k1 : Int) (f1 : Bool) (t1 : ByteArray) (x1 y1 z1 : Int) (q2 k2 : Int) (f2 : Bool) (t2 : ByteArray) (x2 y2 z2 : Int) (g : Nat) (w : World) (HC1 : ∀ w', Below w.heap.size w w' → Calls Tryz.prog 53 #[.agg #[.int .i64 e1, .bool hl1, .string l1, .int .i64 v1, .int .i64 o1, .int .i64 p1, .bool so1, .bool st1, .int .i64 sv1, .slice a1 pn1 c1, .bool sx1, .int .i64 sk1, .int .i64 sy1, .slice b1 fn1 d1], .pointer (some ⟨g, 0, none⟩), .pointer (some ⟨g + 1, 0, none⟩)] w' fun x w'' => x = .returned (.agg #[.int .i64 q1, .int .i64 k1, .bool f1, .string t1, .int .i64 x1, .int .i64 y1, .int .i64 z1]) ∧ Below w'.heap.size w' w'') (HC2 : ∀ w', Below w.heap.size w w' → Calls Tryz.prog 53 #[.agg #[.int .i64 e2, .bool hl2, .string l2, .int .i64 v2, .int .i64 o2, .int .i64 p2, .bool so2, .bool st2, .int .i64 sv2, .slice a2 pn2 c2, .bool sx2, .int .i64 sk2, .int .i64 sy2, .slice b2 fn2 d2], .pointer (some ⟨g, 0, none⟩), .pointer (some ⟨g + 1, 0, none⟩)] w' fun x w'' => x = .returned (.agg #[.int .i64 q2, .int .i64 k2, .bool f2, .string t2, .int .i64 x2, .int .i64 y2, .int .i64 z2]) ∧ Below w'.heap.size w' w'') :
    Calls Tryz.prog 52 #[.agg #[.int .i64 e1, .bool hl1, .string l1, .int .i64 v1, .int .i64 o1, .int .i64 p1, .bool so1, .bool st1, .int .i64 sv1, .slice a1 pn1 c1, .bool sx1, .int .i64 sk1, .int .i64 sy1, .slice b1 fn1 d1, .int .i64 e2, .bool hl2, .string l2, .int .i64 v2, .int .i64 o2, .int .i64 p2, .bool so2, .bool st2, .int .i64 sv2, .slice a2 pn2 c2, .bool sx2, .int .i64 sk2, .int .i64 sy2, .slice b2 fn2 d2], .func (.func 53) #[] #[.pointer (some ⟨g, 0, none⟩), .pointer (some ⟨g + 1, 0, none⟩)]] w fun x w' => x = .returned (.agg #[.int .i64 q1, .int .i64 k1, .bool f1, .string t1, .int .i64 x1, .int .i64 y1, .int .i64 z1, .int .i64 q2, .int .i64 k2, .bool f2, .string t2, .int .i64 x2, .int .i64 y2, .int .i64 z2]) ∧ Below w.heap.size w w' := by
  obtain ⟨W, hW⟩ : ∃ W, W = (w.alloc (.cells #[.int .i64 e1, .bool hl1, .string l1, .int .i64 v1, .int .i64 o1, .int .i64 p1, .bool so1, .bool st1, .int .i64 sv1, .slice a1 pn1 c1, .bool sx1, .int .i64 sk1, .int .i64 sy1, .slice b1 fn1 d1, .int .i64 e2, .bool hl2, .string l2, .int .i64 v2, .int .i64 o2, .int .i64 p2, .bool so2, .bool st2, .int .i64 sv2, .slice a2 pn2 c2, .bool sx2, .int .i64 sk2, .int .i64 sy2, .slice b2 fn2 d2] 116)).alloc (.cells #[.int .i64 0, .int .i64 0, .bool false, .string ⟨#[]⟩, .int .i64 0, .int .i64 0, .int .i64 0, .int .i64 0, .int .i64 0, .bool false, .string ⟨#[]⟩, .int .i64 0, .int .i64 0, .int .i64 0] 113) := ⟨_, rfl⟩
  have HW : Hid ((w.alloc (.cells #[.int .i64 e1, .bool hl1, .string l1, .int .i64 v1, .int .i64 o1, .int .i64 p1, .bool so1, .bool st1, .int .i64 sv1, .slice a1 pn1 c1, .bool sx1, .int .i64 sk1, .int .i64 sy1, .slice b1 fn1 d1, .int .i64 e2, .bool hl2, .string l2, .int .i64 v2, .int .i64 o2, .int .i64 p2, .bool so2, .bool st2, .int .i64 sv2, .slice a2 pn2 c2, .bool sx2, .int .i64 sk2, .int .i64 sy2, .slice b2 fn2 d2] 116)).alloc (.cells #[.int .i64 0, .int .i64 0, .bool false, .string ⟨#[]⟩, .int .i64 0, .int .i64 0, .int .i64 0, .int .i64 0, .int .i64 0, .bool false, .string ⟨#[]⟩, .int .i64 0, .int .i64 0, .int .i64 0] 113) = W) := hW.symm
  have hB : Below w.heap.size w W := by rw [hW]; exact two_new _ _
  have X0 : W.heap[w.heap.size]? = some (.cells #[.int .i64 e1, .bool hl1, .string l1, .int .i64 v1, .int .i64 o1, .int .i64 p1, .bool so1, .bool st1, .int .i64 sv1, .slice a1 pn1 c1, .bool sx1, .int .i64 sk1, .int .i64 sy1, .slice b1 fn1 d1, .int .i64 e2, .bool hl2, .string l2, .int .i64 v2, .int .i64 o2, .int .i64 p2, .bool so2, .bool st2, .int .i64 sv2, .slice a2 pn2 c2, .bool sx2, .int .i64 sk2, .int .i64 sy2, .slice b2 fn2 d2] 116) := by rw [hW]; exact ((one_new _).block _ (by simp)).trans (heap_alloc_new w _)
  have X1 : W.heap[w.heap.size + 1]? = some (.cells #[.int .i64 0, .int .i64 0, .bool false, .string ⟨#[]⟩, .int .i64 0, .int .i64 0, .int .i64 0, .int .i64 0, .int .i64 0, .bool false, .string ⟨#[]⟩, .int .i64 0, .int .i64 0, .int .i64 0] 113) := by rw [hW]; exact heap_new2 w _ _
  have S0 : SbS w W (.cells #[.int .i64 e1, .bool hl1, .string l1, .int .i64 v1, .int .i64 o1, .int .i64 p1, .bool so1, .bool st1, .int .i64 sv1, .slice a1 pn1 c1, .bool sx1, .int .i64 sk1, .int .i64 sy1, .slice b1 fn1 d1, .int .i64 e2, .bool hl2, .string l2, .int .i64 v2, .int .i64 o2, .int .i64 p2, .bool so2, .bool st2, .int .i64 sv2, .slice a2 pn2 c2, .bool sx2, .int .i64 sk2, .int .i64 sy2, .slice b2 fn2 d2] 116) := ⟨hB, X0⟩
  have hq0 : ∀ w', SbS w w' (.cells #[.int .i64 e1, .bool hl1, .string l1, .int .i64 v1, .int .i64 o1, .int .i64 p1, .bool so1, .bool st1, .int .i64 sv1, .slice a1 pn1 c1, .bool sx1, .int .i64 sk1, .int .i64 sy1, .slice b1 fn1 d1, .int .i64 e2, .bool hl2, .string l2, .int .i64 v2, .int .i64 o2, .int .i64 p2, .bool so2, .bool st2, .int .i64 sv2, .slice a2 pn2 c2, .bool sx2, .int .i64 sk2, .int .i64 sy2, .slice b2 fn2 d2] 116) → w'.cell? ⟨w.heap.size, 0, none⟩ = some (.int .i64 e1) := fun w' hb => by unfold World.cell?; rw [hb.o]; rfl
  have hq1 : ∀ w', SbS w w' (.cells #[.int .i64 e1, .bool hl1, .string l1, .int .i64 v1, .int .i64 o1, .int .i64 p1, .bool so1, .bool st1, .int .i64 sv1, .slice a1 pn1 c1, .bool sx1, .int .i64 sk1, .int .i64 sy1, .slice b1 fn1 d1, .int .i64 e2, .bool hl2, .string l2, .int .i64 v2, .int .i64 o2, .int .i64 p2, .bool so2, .bool st2, .int .i64 sv2, .slice a2 pn2 c2, .bool sx2, .int .i64 sk2, .int .i64 sy2, .slice b2 fn2 d2] 116) → w'.cell? ⟨w.heap.size, 1, none⟩ = some (.bool hl1) := fun w' hb => by unfold World.cell?; rw [hb.o]; rfl
  have hq2 : ∀ w', SbS w w' (.cells #[.int .i64 e1, .bool hl1, .string l1, .int .i64 v1, .int .i64 o1, .int .i64 p1, .bool so1, .bool st1, .int .i64 sv1, .slice a1 pn1 c1, .bool sx1, .int .i64 sk1, .int .i64 sy1, .slice b1 fn1 d1, .int .i64 e2, .bool hl2, .string l2, .int .i64 v2, .int .i64 o2, .int .i64 p2, .bool so2, .bool st2, .int .i64 sv2, .slice a2 pn2 c2, .bool sx2, .int .i64 sk2, .int .i64 sy2, .slice b2 fn2 d2] 116) → w'.cell? ⟨w.heap.size, 2, none⟩ = some (.string l1) := fun w' hb => by unfold World.cell?; rw [hb.o]; rfl
  have hq3 : ∀ w', SbS w w' (.cells #[.int .i64 e1, .bool hl1, .string l1, .int .i64 v1, .int .i64 o1, .int .i64 p1, .bool so1, .bool st1, .int .i64 sv1, .slice a1 pn1 c1, .bool sx1, .int .i64 sk1, .int .i64 sy1, .slice b1 fn1 d1, .int .i64 e2, .bool hl2, .string l2, .int .i64 v2, .int .i64 o2, .int .i64 p2, .bool so2, .bool st2, .int .i64 sv2, .slice a2 pn2 c2, .bool sx2, .int .i64 sk2, .int .i64 sy2, .slice b2 fn2 d2] 116) → w'.cell? ⟨w.heap.size, 3, none⟩ = some (.int .i64 v1) := fun w' hb => by unfold World.cell?; rw [hb.o]; rfl
  have hq4 : ∀ w', SbS w w' (.cells #[.int .i64 e1, .bool hl1, .string l1, .int .i64 v1, .int .i64 o1, .int .i64 p1, .bool so1, .bool st1, .int .i64 sv1, .slice a1 pn1 c1, .bool sx1, .int .i64 sk1, .int .i64 sy1, .slice b1 fn1 d1, .int .i64 e2, .bool hl2, .string l2, .int .i64 v2, .int .i64 o2, .int .i64 p2, .bool so2, .bool st2, .int .i64 sv2, .slice a2 pn2 c2, .bool sx2, .int .i64 sk2, .int .i64 sy2, .slice b2 fn2 d2] 116) → w'.cell? ⟨w.heap.size, 4, none⟩ = some (.int .i64 o1) := fun w' hb => by unfold World.cell?; rw [hb.o]; rfl
  have hq5 : ∀ w', SbS w w' (.cells #[.int .i64 e1, .bool hl1, .string l1, .int .i64 v1, .int .i64 o1, .int .i64 p1, .bool so1, .bool st1, .int .i64 sv1, .slice a1 pn1 c1, .bool sx1, .int .i64 sk1, .int .i64 sy1, .slice b1 fn1 d1, .int .i64 e2, .bool hl2, .string l2, .int .i64 v2, .int .i64 o2, .int .i64 p2, .bool so2, .bool st2, .int .i64 sv2, .slice a2 pn2 c2, .bool sx2, .int .i64 sk2, .int .i64 sy2, .slice b2 fn2 d2] 116) → w'.cell? ⟨w.heap.size, 5, none⟩ = some (.int .i64 p1) := fun w' hb => by unfold World.cell?; rw [hb.o]; rfl
  have hq6 : ∀ w', SbS w w' (.cells #[.int .i64 e1, .bool hl1, .string l1, .int .i64 v1, .int .i64 o1, .int .i64 p1, .bool so1, .bool st1, .int .i64 sv1, .slice a1 pn1 c1, .bool sx1, .int .i64 sk1, .int .i64 sy1, .slice b1 fn1 d1, .int .i64 e2, .bool hl2, .string l2, .int .i64 v2, .int .i64 o2, .int .i64 p2, .bool so2, .bool st2, .int .i64 sv2, .slice a2 pn2 c2, .bool sx2, .int .i64 sk2, .int .i64 sy2, .slice b2 fn2 d2] 116) → w'.cell? ⟨w.heap.size, 6, none⟩ = some (.bool so1) := fun w' hb => by unfold World.cell?; rw [hb.o]; rfl
  have hq7 : ∀ w', SbS w w' (.cells #[.int .i64 e1, .bool hl1, .string l1, .int .i64 v1, .int .i64 o1, .int .i64 p1, .bool so1, .bool st1, .int .i64 sv1, .slice a1 pn1 c1, .bool sx1, .int .i64 sk1, .int .i64 sy1, .slice b1 fn1 d1, .int .i64 e2, .bool hl2, .string l2, .int .i64 v2, .int .i64 o2, .int .i64 p2, .bool so2, .bool st2, .int .i64 sv2, .slice a2 pn2 c2, .bool sx2, .int .i64 sk2, .int .i64 sy2, .slice b2 fn2 d2] 116) → w'.cell? ⟨w.heap.size, 7, none⟩ = some (.bool st1) := fun w' hb => by unfold World.cell?; rw [hb.o]; rfl
  have hq8 : ∀ w', SbS w w' (.cells #[.int .i64 e1, .bool hl1, .string l1, .int .i64 v1, .int .i64 o1, .int .i64 p1, .bool so1, .bool st1, .int .i64 sv1, .slice a1 pn1 c1, .bool sx1, .int .i64 sk1, .int .i64 sy1, .slice b1 fn1 d1, .int .i64 e2, .bool hl2, .string l2, .int .i64 v2, .int .i64 o2, .int .i64 p2, .bool so2, .bool st2, .int .i64 sv2, .slice a2 pn2 c2, .bool sx2, .int .i64 sk2, .int .i64 sy2, .slice b2 fn2 d2] 116) → w'.cell? ⟨w.heap.size, 8, none⟩ = some (.int .i64 sv1) := fun w' hb => by unfold World.cell?; rw [hb.o]; rfl
  have hq9 : ∀ w', SbS w w' (.cells #[.int .i64 e1, .bool hl1, .string l1, .int .i64 v1, .int .i64 o1, .int .i64 p1, .bool so1, .bool st1, .int .i64 sv1, .slice a1 pn1 c1, .bool sx1, .int .i64 sk1, .int .i64 sy1, .slice b1 fn1 d1, .int .i64 e2, .bool hl2, .string l2, .int .i64 v2, .int .i64 o2, .int .i64 p2, .bool so2, .bool st2, .int .i64 sv2, .slice a2 pn2 c2, .bool sx2, .int .i64 sk2, .int .i64 sy2, .slice b2 fn2 d2] 116) → w'.cell? ⟨w.heap.size, 9, none⟩ = some (.slice a1 pn1 c1) := fun w' hb => by unfold World.cell?; rw [hb.o]; rfl
  have hq10 : ∀ w', SbS w w' (.cells #[.int .i64 e1, .bool hl1, .string l1, .int .i64 v1, .int .i64 o1, .int .i64 p1, .bool so1, .bool st1, .int .i64 sv1, .slice a1 pn1 c1, .bool sx1, .int .i64 sk1, .int .i64 sy1, .slice b1 fn1 d1, .int .i64 e2, .bool hl2, .string l2, .int .i64 v2, .int .i64 o2, .int .i64 p2, .bool so2, .bool st2, .int .i64 sv2, .slice a2 pn2 c2, .bool sx2, .int .i64 sk2, .int .i64 sy2, .slice b2 fn2 d2] 116) → w'.cell? ⟨w.heap.size, 10, none⟩ = some (.bool sx1) := fun w' hb => by unfold World.cell?; rw [hb.o]; rfl
  have hq11 : ∀ w', SbS w w' (.cells #[.int .i64 e1, .bool hl1, .string l1, .int .i64 v1, .int .i64 o1, .int .i64 p1, .bool so1, .bool st1, .int .i64 sv1, .slice a1 pn1 c1, .bool sx1, .int .i64 sk1, .int .i64 sy1, .slice b1 fn1 d1, .int .i64 e2, .bool hl2, .string l2, .int .i64 v2, .int .i64 o2, .int .i64 p2, .bool so2, .bool st2, .int .i64 sv2, .slice a2 pn2 c2, .bool sx2, .int .i64 sk2, .int .i64 sy2, .slice b2 fn2 d2] 116) → w'.cell? ⟨w.heap.size, 11, none⟩ = some (.int .i64 sk1) := fun w' hb => by unfold World.cell?; rw [hb.o]; rfl
  have hq12 : ∀ w', SbS w w' (.cells #[.int .i64 e1, .bool hl1, .string l1, .int .i64 v1, .int .i64 o1, .int .i64 p1, .bool so1, .bool st1, .int .i64 sv1, .slice a1 pn1 c1, .bool sx1, .int .i64 sk1, .int .i64 sy1, .slice b1 fn1 d1, .int .i64 e2, .bool hl2, .string l2, .int .i64 v2, .int .i64 o2, .int .i64 p2, .bool so2, .bool st2, .int .i64 sv2, .slice a2 pn2 c2, .bool sx2, .int .i64 sk2, .int .i64 sy2, .slice b2 fn2 d2] 116) → w'.cell? ⟨w.heap.size, 12, none⟩ = some (.int .i64 sy1) := fun w' hb => by unfold World.cell?; rw [hb.o]; rfl
  have hq13 : ∀ w', SbS w w' (.cells #[.int .i64 e1, .bool hl1, .string l1, .int .i64 v1, .int .i64 o1, .int .i64 p1, .bool so1, .bool st1, .int .i64 sv1, .slice a1 pn1 c1, .bool sx1, .int .i64 sk1, .int .i64 sy1, .slice b1 fn1 d1, .int .i64 e2, .bool hl2, .string l2, .int .i64 v2, .int .i64 o2, .int .i64 p2, .bool so2, .bool st2, .int .i64 sv2, .slice a2 pn2 c2, .bool sx2, .int .i64 sk2, .int .i64 sy2, .slice b2 fn2 d2] 116) → w'.cell? ⟨w.heap.size, 13, none⟩ = some (.slice b1 fn1 d1) := fun w' hb => by unfold World.cell?; rw [hb.o]; rfl
  have hq14 : ∀ w', SbS w w' (.cells #[.int .i64 e1, .bool hl1, .string l1, .int .i64 v1, .int .i64 o1, .int .i64 p1, .bool so1, .bool st1, .int .i64 sv1, .slice a1 pn1 c1, .bool sx1, .int .i64 sk1, .int .i64 sy1, .slice b1 fn1 d1, .int .i64 e2, .bool hl2, .string l2, .int .i64 v2, .int .i64 o2, .int .i64 p2, .bool so2, .bool st2, .int .i64 sv2, .slice a2 pn2 c2, .bool sx2, .int .i64 sk2, .int .i64 sy2, .slice b2 fn2 d2] 116) → w'.cell? ⟨w.heap.size, 14, none⟩ = some (.int .i64 e2) := fun w' hb => by unfold World.cell?; rw [hb.o]; rfl
  have hq15 : ∀ w', SbS w w' (.cells #[.int .i64 e1, .bool hl1, .string l1, .int .i64 v1, .int .i64 o1, .int .i64 p1, .bool so1, .bool st1, .int .i64 sv1, .slice a1 pn1 c1, .bool sx1, .int .i64 sk1, .int .i64 sy1, .slice b1 fn1 d1, .int .i64 e2, .bool hl2, .string l2, .int .i64 v2, .int .i64 o2, .int .i64 p2, .bool so2, .bool st2, .int .i64 sv2, .slice a2 pn2 c2, .bool sx2, .int .i64 sk2, .int .i64 sy2, .slice b2 fn2 d2] 116) → w'.cell? ⟨w.heap.size, 15, none⟩ = some (.bool hl2) := fun w' hb => by unfold World.cell?; rw [hb.o]; rfl
  have hq16 : ∀ w', SbS w w' (.cells #[.int .i64 e1, .bool hl1, .string l1, .int .i64 v1, .int .i64 o1, .int .i64 p1, .bool so1, .bool st1, .int .i64 sv1, .slice a1 pn1 c1, .bool sx1, .int .i64 sk1, .int .i64 sy1, .slice b1 fn1 d1, .int .i64 e2, .bool hl2, .string l2, .int .i64 v2, .int .i64 o2, .int .i64 p2, .bool so2, .bool st2, .int .i64 sv2, .slice a2 pn2 c2, .bool sx2, .int .i64 sk2, .int .i64 sy2, .slice b2 fn2 d2] 116) → w'.cell? ⟨w.heap.size, 16, none⟩ = some (.string l2) := fun w' hb => by unfold World.cell?; rw [hb.o]; rfl
  have hq17 : ∀ w', SbS w w' (.cells #[.int .i64 e1, .bool hl1, .string l1, .int .i64 v1, .int .i64 o1, .int .i64 p1, .bool so1, .bool st1, .int .i64 sv1, .slice a1 pn1 c1, .bool sx1, .int .i64 sk1, .int .i64 sy1, .slice b1 fn1 d1, .int .i64 e2, .bool hl2, .string l2, .int .i64 v2, .int .i64 o2, .int .i64 p2, .bool so2, .bool st2, .int .i64 sv2, .slice a2 pn2 c2, .bool sx2, .int .i64 sk2, .int .i64 sy2, .slice b2 fn2 d2] 116) → w'.cell? ⟨w.heap.size, 17, none⟩ = some (.int .i64 v2) := fun w' hb => by unfold World.cell?; rw [hb.o]; rfl
  have hq18 : ∀ w', SbS w w' (.cells #[.int .i64 e1, .bool hl1, .string l1, .int .i64 v1, .int .i64 o1, .int .i64 p1, .bool so1, .bool st1, .int .i64 sv1, .slice a1 pn1 c1, .bool sx1, .int .i64 sk1, .int .i64 sy1, .slice b1 fn1 d1, .int .i64 e2, .bool hl2, .string l2, .int .i64 v2, .int .i64 o2, .int .i64 p2, .bool so2, .bool st2, .int .i64 sv2, .slice a2 pn2 c2, .bool sx2, .int .i64 sk2, .int .i64 sy2, .slice b2 fn2 d2] 116) → w'.cell? ⟨w.heap.size, 18, none⟩ = some (.int .i64 o2) := fun w' hb => by unfold World.cell?; rw [hb.o]; rfl
  have hq19 : ∀ w', SbS w w' (.cells #[.int .i64 e1, .bool hl1, .string l1, .int .i64 v1, .int .i64 o1, .int .i64 p1, .bool so1, .bool st1, .int .i64 sv1, .slice a1 pn1 c1, .bool sx1, .int .i64 sk1, .int .i64 sy1, .slice b1 fn1 d1, .int .i64 e2, .bool hl2, .string l2, .int .i64 v2, .int .i64 o2, .int .i64 p2, .bool so2, .bool st2, .int .i64 sv2, .slice a2 pn2 c2, .bool sx2, .int .i64 sk2, .int .i64 sy2, .slice b2 fn2 d2] 116) → w'.cell? ⟨w.heap.size, 19, none⟩ = some (.int .i64 p2) := fun w' hb => by unfold World.cell?; rw [hb.o]; rfl
  have hq20 : ∀ w', SbS w w' (.cells #[.int .i64 e1, .bool hl1, .string l1, .int .i64 v1, .int .i64 o1, .int .i64 p1, .bool so1, .bool st1, .int .i64 sv1, .slice a1 pn1 c1, .bool sx1, .int .i64 sk1, .int .i64 sy1, .slice b1 fn1 d1, .int .i64 e2, .bool hl2, .string l2, .int .i64 v2, .int .i64 o2, .int .i64 p2, .bool so2, .bool st2, .int .i64 sv2, .slice a2 pn2 c2, .bool sx2, .int .i64 sk2, .int .i64 sy2, .slice b2 fn2 d2] 116) → w'.cell? ⟨w.heap.size, 20, none⟩ = some (.bool so2) := fun w' hb => by unfold World.cell?; rw [hb.o]; rfl
  have hq21 : ∀ w', SbS w w' (.cells #[.int .i64 e1, .bool hl1, .string l1, .int .i64 v1, .int .i64 o1, .int .i64 p1, .bool so1, .bool st1, .int .i64 sv1, .slice a1 pn1 c1, .bool sx1, .int .i64 sk1, .int .i64 sy1, .slice b1 fn1 d1, .int .i64 e2, .bool hl2, .string l2, .int .i64 v2, .int .i64 o2, .int .i64 p2, .bool so2, .bool st2, .int .i64 sv2, .slice a2 pn2 c2, .bool sx2, .int .i64 sk2, .int .i64 sy2, .slice b2 fn2 d2] 116) → w'.cell? ⟨w.heap.size, 21, none⟩ = some (.bool st2) := fun w' hb => by unfold World.cell?; rw [hb.o]; rfl
  have hq22 : ∀ w', SbS w w' (.cells #[.int .i64 e1, .bool hl1, .string l1, .int .i64 v1, .int .i64 o1, .int .i64 p1, .bool so1, .bool st1, .int .i64 sv1, .slice a1 pn1 c1, .bool sx1, .int .i64 sk1, .int .i64 sy1, .slice b1 fn1 d1, .int .i64 e2, .bool hl2, .string l2, .int .i64 v2, .int .i64 o2, .int .i64 p2, .bool so2, .bool st2, .int .i64 sv2, .slice a2 pn2 c2, .bool sx2, .int .i64 sk2, .int .i64 sy2, .slice b2 fn2 d2] 116) → w'.cell? ⟨w.heap.size, 22, none⟩ = some (.int .i64 sv2) := fun w' hb => by unfold World.cell?; rw [hb.o]; rfl
  have hq23 : ∀ w', SbS w w' (.cells #[.int .i64 e1, .bool hl1, .string l1, .int .i64 v1, .int .i64 o1, .int .i64 p1, .bool so1, .bool st1, .int .i64 sv1, .slice a1 pn1 c1, .bool sx1, .int .i64 sk1, .int .i64 sy1, .slice b1 fn1 d1, .int .i64 e2, .bool hl2, .string l2, .int .i64 v2, .int .i64 o2, .int .i64 p2, .bool so2, .bool st2, .int .i64 sv2, .slice a2 pn2 c2, .bool sx2, .int .i64 sk2, .int .i64 sy2, .slice b2 fn2 d2] 116) → w'.cell? ⟨w.heap.size, 23, none⟩ = some (.slice a2 pn2 c2) := fun w' hb => by unfold World.cell?; rw [hb.o]; rfl
  have hq24 : ∀ w', SbS w w' (.cells #[.int .i64 e1, .bool hl1, .string l1, .int .i64 v1, .int .i64 o1, .int .i64 p1, .bool so1, .bool st1, .int .i64 sv1, .slice a1 pn1 c1, .bool sx1, .int .i64 sk1, .int .i64 sy1, .slice b1 fn1 d1, .int .i64 e2, .bool hl2, .string l2, .int .i64 v2, .int .i64 o2, .int .i64 p2, .bool so2, .bool st2, .int .i64 sv2, .slice a2 pn2 c2, .bool sx2, .int .i64 sk2, .int .i64 sy2, .slice b2 fn2 d2] 116) → w'.cell? ⟨w.heap.size, 24, none⟩ = some (.bool sx2) := fun w' hb => by unfold World.cell?; rw [hb.o]; rfl
  have hq25 : ∀ w', SbS w w' (.cells #[.int .i64 e1, .bool hl1, .string l1, .int .i64 v1, .int .i64 o1, .int .i64 p1, .bool so1, .bool st1, .int .i64 sv1, .slice a1 pn1 c1, .bool sx1, .int .i64 sk1, .int .i64 sy1, .slice b1 fn1 d1, .int .i64 e2, .bool hl2, .string l2, .int .i64 v2, .int .i64 o2, .int .i64 p2, .bool so2, .bool st2, .int .i64 sv2, .slice a2 pn2 c2, .bool sx2, .int .i64 sk2, .int .i64 sy2, .slice b2 fn2 d2] 116) → w'.cell? ⟨w.heap.size, 25, none⟩ = some (.int .i64 sk2) := fun w' hb => by unfold World.cell?; rw [hb.o]; rfl
  have hq26 : ∀ w', SbS w w' (.cells #[.int .i64 e1, .bool hl1, .string l1, .int .i64 v1, .int .i64 o1, .int .i64 p1, .bool so1, .bool st1, .int .i64 sv1, .slice a1 pn1 c1, .bool sx1, .int .i64 sk1, .int .i64 sy1, .slice b1 fn1 d1, .int .i64 e2, .bool hl2, .string l2, .int .i64 v2, .int .i64 o2, .int .i64 p2, .bool so2, .bool st2, .int .i64 sv2, .slice a2 pn2 c2, .bool sx2, .int .i64 sk2, .int .i64 sy2, .slice b2 fn2 d2] 116) → w'.cell? ⟨w.heap.size, 26, none⟩ = some (.int .i64 sy2) := fun w' hb => by unfold World.cell?; rw [hb.o]; rfl
  have hq27 : ∀ w', SbS w w' (.cells #[.int .i64 e1, .bool hl1, .string l1, .int .i64 v1, .int .i64 o1, .int .i64 p1, .bool so1, .bool st1, .int .i64 sv1, .slice a1 pn1 c1, .bool sx1, .int .i64 sk1, .int .i64 sy1, .slice b1 fn1 d1, .int .i64 e2, .bool hl2, .string l2, .int .i64 v2, .int .i64 o2, .int .i64 p2, .bool so2, .bool st2, .int .i64 sv2, .slice a2 pn2 c2, .bool sx2, .int .i64 sk2, .int .i64 sy2, .slice b2 fn2 d2] 116) → w'.cell? ⟨w.heap.size, 27, none⟩ = some (.slice b2 fn2 d2) := fun w' hb => by unfold World.cell?; rw [hb.o]; rfl
  clear hW X0
  go_enter Tryz.func52, Tryz.ntmps52
  go_upto_region 1 with fail
  rw [HW.out]
  have X1 := ((Below.refl W.heap.size W).drew.block _ (Array.getElem?_eq_some_iff.1 X1).1).trans X1
  refine wp_region_held_drew (S := fun w' => SbS w w' (.cells #[.int .i64 e1, .bool hl1, .string l1, .int .i64 v1, .int .i64 o1, .int .i64 p1, .bool so1, .bool st1, .int .i64 sv1, .slice a1 pn1 c1, .bool sx1, .int .i64 sk1, .int .i64 sy1, .slice b1 fn1 d1, .int .i64 e2, .bool hl2, .string l2, .int .i64 v2, .int .i64 o2, .int .i64 p2, .bool so2, .bool st2, .int .i64 sv2, .slice a2 pn2 c2, .bool sx2, .int .i64 sk2, .int .i64 sy2, .slice b2 fn2 d2] 116)) (by kernel_rfl) (S0.below (Below.refl _ _).drew) (fun hHeld => ?_)
  refine h_take (i := 0) (d := some 5) (v := ?vs1) (by rfl) (by kernel_rfl) (by kernel_rfl) (by kernel_rfl) (fun _ _ _ h => h) (by rfl) ?hys1 hHeld ?rests1
  case hys1 =>
    intro o ho
    simp only [List.getElem?_toArray, List.getElem?_cons_zero, Option.some.injEq] at ho
    subst ho
    intro w' hSw
    first | (go_simp; done) | (go_simp; with_reducible rfl)
  try simp only [Act.put, List.setIfInBounds_toArray, List.set_cons_zero, List.set_cons_succ]
  refine h_take (i := 1) (d := some 6) (v := ?vs2) (by rfl) (by kernel_rfl) (by kernel_rfl) (by kernel_rfl) (fun _ _ _ h => h) (by rfl) ?hys2 hHeld ?rests2
  case hys2 =>
    intro o ho
    simp only [List.getElem?_toArray, List.getElem?_cons_succ, List.getElem?_cons_zero, Option.some.injEq] at ho
    subst ho
    intro w' hSw
    first | (go_simp; done) | (go_simp; with_reducible rfl)
  try simp only [Act.put, List.setIfInBounds_toArray, List.set_cons_zero, List.set_cons_succ]
  refine h_take (i := 2) (d := some 7) (v := ?vs3) (by rfl) (by kernel_rfl) (by kernel_rfl) (by kernel_rfl) (fun _ _ _ h => h) (by rfl) ?hys3 hHeld ?rests3
  case hys3 =>
    intro o ho
    simp only [List.getElem?_toArray, List.getElem?_cons_succ, List.getElem?_cons_zero, Option.some.injEq] at ho
    subst ho
    intro w' hSw
    first | (go_simp; done) | (go_simp; with_reducible rfl)
  try simp only [Act.put, List.setIfInBounds_toArray, List.set_cons_zero, List.set_cons_succ]
  refine h_take (i := 4) (d := some 9) (v := ?vs4) (by rfl) (by kernel_rfl) (by kernel_rfl) (by kernel_rfl) (fun _ _ _ h => h) (by rfl) ?hys4 hHeld ?rests4
  case hys4 =>
    intro o ho
    simp only [List.getElem?_toArray, List.getElem?_cons_succ, List.getElem?_cons_zero, Option.some.injEq] at ho
    subst ho
    intro w' hSw
    first | (go_simp; done) | (go_simp; with_reducible rfl)
  try simp only [Act.put, List.setIfInBounds_toArray, List.set_cons_zero, List.set_cons_succ]
  refine h_take (i := 5) (d := some 10) (v := ?vs5) (by rfl) (by kernel_rfl) (by kernel_rfl) (by kernel_rfl) (fun _ _ _ h => h) (by rfl) ?hys5 hHeld ?rests5
  case hys5 =>
    intro o ho
    simp only [List.getElem?_toArray, List.getElem?_cons_succ, List.getElem?_cons_zero, Option.some.injEq] at ho
    subst ho
    intro w' hSw
    first | (go_simp; done) | (go_simp; with_reducible rfl)
  try simp only [Act.put, List.setIfInBounds_toArray, List.set_cons_zero, List.set_cons_succ]
  refine h_take (i := 6) (d := some 11) (v := ?vs6) (by rfl) (by kernel_rfl) (by kernel_rfl) (by kernel_rfl) (fun _ _ _ h => h) (by rfl) ?hys6 hHeld ?rests6
  case hys6 =>
    intro o ho
    simp only [List.getElem?_toArray, List.getElem?_cons_succ, List.getElem?_cons_zero, Option.some.injEq] at ho
    subst ho
    intro w' hSw
    first | (go_simp; done) | (go_simp; with_reducible rfl)
  try simp only [Act.put, List.setIfInBounds_toArray, List.set_cons_zero, List.set_cons_succ]
  refine wpAnyH_ready (rs := [3]) (by kernel_rfl) (by simp) ?_
  refine AllReadyH.cons rfl (fun K hK => ?_) AllReadyH.nil
  · go_simp
    refine (HC1 _ hHeld.b).mono ?_
    rintro x w1 ⟨rfl, hb1⟩
    have hC1 := hHeld.below hb1
    have X1 := (hb1.block _ (Array.getElem?_eq_some_iff.1 X1).1).trans X1
    refine hK.out _ _ ?_ (fun hHeld => ?_)
    · exact hC1
    clear hK K
    try simp only [Act.put, List.setIfInBounds_toArray, List.set_cons_zero, List.set_cons_succ]
    refine wpAnyH_ready (rs := [7]) (by kernel_rfl) (by simp) ?_
    refine AllReadyH.cons rfl (fun K hK => ?_) AllReadyH.nil
    · go_simp
      refine (HC2 _ hHeld.b).mono ?_
      rintro x w2 ⟨rfl, hb2⟩
      have hC2 := hHeld.below hb2
      have X2 := (hb2.block _ (Array.getElem?_eq_some_iff.1 X1).1).trans X1
      obtain ⟨⟨m0, m1, m2, m3, m4, m5, m6, m7, m8, m9, m10, m11, m12, m13⟩, n0, n1, n2, n3, n4, n5, n6, n7, n8, n9, n10, n11, n12, n13⟩ := fourteen X2
      refine hK.out _ _ ?_ (fun hHeld => ?_)
      · exact hC2
      clear hK K
      try simp only [Act.put, List.setIfInBounds_toArray, List.set_cons_zero, List.set_cons_succ]
      refine h_take (i := 8) (d := some 13) (v := ?vs7) (by rfl) (by kernel_rfl) (by kernel_rfl) (by kernel_rfl) (fun _ _ _ h => h) (by rfl) ?hys7 hHeld ?rests7
      case hys7 =>
        intro o ho
        simp only [List.getElem?_toArray, List.getElem?_cons_succ, List.getElem?_cons_zero, Option.some.injEq] at ho
        subst ho
        intro w' hSw
        first | (go_simp; done) | (go_simp; with_reducible rfl)
      try simp only [Act.put, List.setIfInBounds_toArray, List.set_cons_zero, List.set_cons_succ]
      refine wpAnyH_ready (rs := [9]) (by kernel_rfl) (by simp) ?_
      refine AllReadyH.cons rfl (fun K hK => ?_) AllReadyH.nil
      go_simp
      refine hK.out _ _ ?_ (fun hHeld => ?_)
      · exact hHeld.put _ _ _ _ _ _ _ _ _ _ _ _ _ _
      clear hK K
      try simp only [Act.put, List.setIfInBounds_toArray, List.set_cons_zero, List.set_cons_succ]
      refine wpAnyH_done (by kernel_rfl) ?_ _
      obtain ⟨W3, hW3⟩ : ∃ W3, W3 = ((((((((((((((w2.setCell ⟨w.heap.size + 1, 0, none⟩ (.int .i64 q1)).setCell ⟨w.heap.size + 1, 1, none⟩ (.int .i64 k1)).setCell ⟨w.heap.size + 1, 2, none⟩ (.bool f1)).setCell ⟨w.heap.size + 1, 3, none⟩ (.string t1)).setCell ⟨w.heap.size + 1, 4, none⟩ (.int .i64 x1)).setCell ⟨w.heap.size + 1, 5, none⟩ (.int .i64 y1)).setCell ⟨w.heap.size + 1, 6, none⟩ (.int .i64 z1)).setCell ⟨w.heap.size + 1, 7, none⟩ (.int .i64 q2)).setCell ⟨w.heap.size + 1, 8, none⟩ (.int .i64 k2)).setCell ⟨w.heap.size + 1, 9, none⟩ (.bool f2)).setCell ⟨w.heap.size + 1, 10, none⟩ (.string t2)).setCell ⟨w.heap.size + 1, 11, none⟩ (.int .i64 x2)).setCell ⟨w.heap.size + 1, 12, none⟩ (.int .i64 y2)).setCell ⟨w.heap.size + 1, 13, none⟩ (.int .i64 z2)) := ⟨_, rfl⟩
      have HW3 : Hid (((((((((((((((w2.setCell ⟨w.heap.size + 1, 0, none⟩ (.int .i64 q1)).setCell ⟨w.heap.size + 1, 1, none⟩ (.int .i64 k1)).setCell ⟨w.heap.size + 1, 2, none⟩ (.bool f1)).setCell ⟨w.heap.size + 1, 3, none⟩ (.string t1)).setCell ⟨w.heap.size + 1, 4, none⟩ (.int .i64 x1)).setCell ⟨w.heap.size + 1, 5, none⟩ (.int .i64 y1)).setCell ⟨w.heap.size + 1, 6, none⟩ (.int .i64 z1)).setCell ⟨w.heap.size + 1, 7, none⟩ (.int .i64 q2)).setCell ⟨w.heap.size + 1, 8, none⟩ (.int .i64 k2)).setCell ⟨w.heap.size + 1, 9, none⟩ (.bool f2)).setCell ⟨w.heap.size + 1, 10, none⟩ (.string t2)).setCell ⟨w.heap.size + 1, 11, none⟩ (.int .i64 x2)).setCell ⟨w.heap.size + 1, 12, none⟩ (.int .i64 y2)).setCell ⟨w.heap.size + 1, 13, none⟩ (.int .i64 z2)) = W3) := hW3.symm
      have O3 : W3.heap[w.heap.size + 1]? = some (.cells #[.int .i64 q1, .int .i64 k1, .bool f1, .string t1, .int .i64 x1, .int .i64 y1, .int .i64 z1, .int .i64 q2, .int .i64 k2, .bool f2, .string t2, .int .i64 x2, .int .i64 y2, .int .i64 z2] 113) := by rw [hW3]; exact put14 X2 _ _ _ _ _ _ _ _ _ _ _ _ _ _
      have hB3 : Below w.heap.size w W3 := by rw [hW3]; exact set14 hC2.b (Nat.le_succ _) _ _ _ _ _ _ _ _ _ _ _ _ _ _
      rw [HW3.out]
      clear hq0 hq1 hq2 hq3 hq4 hq5 hq6 hq7 hq8 hq9 hq10 hq11 hq12 hq13 hq14 hq15 hq16 hq17 hq18 hq19 hq20 hq21 hq22 hq23 hq24 hq25 hq26 hq27 hHeld hC1 hC2 hb1 hb2 m0 m1 m2 m3 m4 m5 m6 m7 m8 m9 m10 m11 m12 m13 n0 n1 n2 n3 n4 n5 n6 n7 n8 n9 n10 n11 n12 n13 X1 X2 HC1 HC2 hW3 S0 hB
      obtain ⟨⟨m0, m1, m2, m3, m4, m5, m6, m7, m8, m9, m10, m11, m12, m13⟩, -⟩ := fourteen O3
      go_wp2
      exact bodyPost_ret (v := .agg #[.int .i64 q1, .int .i64 k1, .bool f1, .string t1, .int .i64 x1, .int .i64 y1, .int .i64 z1, .int .i64 q2, .int .i64 k2, .bool f2, .string t2, .int .i64 x2, .int .i64 y2, .int .i64 z2]) (by simp [results, Tryz.results52, go_sem, *]) rfl ⟨rfl, hB3⟩
end U
end Go.Proofs.YtdbbmclobmigdaaGreat

/- Two replies held against one another, by the program. -/
namespace Go.Proofs.YtdbbmclobmigdaaGreat
open Go.RowKit
namespace U
theorem five_newB {w : World} (o o' o'' o3 o4 : Obj) : Below w.heap.size w (((((w.alloc o).alloc o').alloc o'').alloc o3).alloc o4) := (four_newB o o' o'' o3).alloc (four_newB (w := w) o o' o'' o3).size _
/-- Five blocks, one behind the other. -/
structure Bx5 (w : World) (g : Nat) (o0 o1 o2 o3 o4 : Obj) : Prop where
  b0 : w.heap[g]? = some o0
  b1 : w.heap[g + 1]? = some o1
  b2 : w.heap[g + 2]? = some o2
  b3 : w.heap[g + 3]? = some o3
  b4 : w.heap[g + 4]? = some o4
theorem Bx5.below {w w' : World} {g : Nat} {o0 o1 o2 o3 o4 : Obj} (h : Bx5 w g o0 o1 o2 o3 o4) (hb : Below w.heap.size w w') : Bx5 w' g o0 o1 o2 o3 o4 :=
  ⟨(hb.block _ (Array.getElem?_eq_some_iff.1 h.b0).1).trans h.b0, (hb.block _ (Array.getElem?_eq_some_iff.1 h.b1).1).trans h.b1, (hb.block _ (Array.getElem?_eq_some_iff.1 h.b2).1).trans h.b2, (hb.block _ (Array.getElem?_eq_some_iff.1 h.b3).1).trans h.b3, (hb.block _ (Array.getElem?_eq_some_iff.1 h.b4).1).trans h.b4⟩
theorem Bx5.new (w : World) (o0 o1 o2 o3 o4 : Obj) : Bx5 (((((w.alloc o0).alloc o1).alloc o2).alloc o3).alloc o4) w.heap.size o0 o1 o2 o3 o4 := by
  have e4 : ((((w.alloc o0).alloc o1).alloc o2).alloc o3).heap.size = w.heap.size + 4 := by simp
  have k4 := heap_alloc_new ((((w.alloc o0).alloc o1).alloc o2).alloc o3) o4
  rw [e4] at k4
  have h := Bx4.new w o0 o1 o2 o3
  have h' := h.below (one_new (w := (((w.alloc o0).alloc o1).alloc o2).alloc o3) o4)
  exact ⟨h'.b0, h'.b1, h'.b2, h'.b3, k4⟩
theorem HdS_of5 {w : World} {g : Nat} {he hp ho hn hv : Int} (h : w.heap[g]? = some (.cells #[.int .i64 he, .int .i64 hp, .int .i64 ho, .int .i64 hn, .int .i64 hv] 43)) : HdS w g 0 ⟨he, hp, ho, hn, hv⟩ := by
  obtain ⟨h0, h1, h2, h3, h4⟩ := five_cells h
  exact ⟨h0, h1, h2, h3, h4⟩
theorem one_cellVB {w : World} {g : Nat} {v : Value} {t : TypeId} (h : w.heap[g]? = some (.cells #[v] t)) : w.cell? ⟨g, 0, none⟩ = some v := by unfold World.cell?; rw [h]; rfl
theorem answer_ne (k1 : Int) (f1 : Bool) (t1 : ByteArray) (x1 y1 z1 : Int) (k2 : Int) (f2 : Bool) (t2 : ByteArray) (x2 y2 z2 : Int) (w : World) : (binOp .neq 39 (.agg #[.int .i64 k1, .bool f1, .string t1, .int .i64 x1, .int .i64 y1, .int .i64 z1]) (.agg #[.int .i64 k2, .bool f2, .string t2, .int .i64 x2, .int .i64 y2, .int .i64 z2])).run Tryz.prog w = .ok (.bool (!anQ k1 f1 t1 x1 y1 z1 k2 f2 t2 x2 y2 z2)) w := by
  unfold anQ
  simp [go_sem]
  by_cases h1 : k1 = k2 <;> by_cases h2 : f1 = f2 <;> by_cases h3 : t1.toList = t2.toList <;> by_cases h4 : x1 = x2 <;> by_cases h5 : y1 = y2 <;> by_cases h6 : z1 = z2 <;> simp [h1, h2, h3, h4, h5, h6]
set_option maxRecDepth 100000 in
set_option maxHeartbeats 4000000 in
theorem iboth_bad (he hp ho hn hv : Int) (s : ByteArray) (e1 : Int) (hl1 : Bool) (l1 : ByteArray) (v1 o1 p1 : Int) (so1 st1 : Bool) (sv1 : Int) (a1 : Option Addr) (pn1 c1 : Nat) (sx1 : Bool) (sk1 sy1 : Int) (b1 : Option Addr) (fn1 d1 : Nat) (e2 : Int) (hl2 : Bool) (l2 : ByteArray) (v2 o2 p2 : Int) (so2 st2 : Bool) (sv2 : Int) (a2 : Option Addr) (pn2 c2 : Nat) (sx2 : Bool) (sk2 sy2 : Int) (b2 : Option Addr) (fn2 d2 : Nat) (q1 k1 : Int) (f1 : Bool) (t1 : ByteArray) (x1 y1 z1 : Int) (q2 k2 : Int) (f2 : Bool) (t2 : ByteArray) (x2 y2 z2 : Int) (w : World) (HS1 : ∀ w', Below w.heap.size w w' → Calls Tryz.prog 11 #[.agg #[.int .i64 he, .int .i64 hp, .int .i64 ho, .int .i64 hn, .int .i64 hv], .string s, .agg #[.int .i64 e1, .bool hl1, .string l1, .int .i64 v1, .int .i64 o1, .int .i64 p1, .bool so1, .bool st1, .int .i64 sv1, .slice a1 pn1 c1, .bool sx1, .int .i64 sk1, .int .i64 sy1, .slice b1 fn1 d1]] w' fun x w'' => x = .returned (.agg #[.int .i64 q1, .int .i64 k1, .bool f1, .string t1, .int .i64 x1, .int .i64 y1, .int .i64 z1]) ∧ Below w'.heap.size w' w'') (HS2 : ∀ w', Below w.heap.size w w' → Calls Tryz.prog 11 #[.agg #[.int .i64 he, .int .i64 hp, .int .i64 ho, .int .i64 hn, .int .i64 hv], .string s, .agg #[.int .i64 e2, .bool hl2, .string l2, .int .i64 v2, .int .i64 o2, .int .i64 p2, .bool so2, .bool st2, .int .i64 sv2, .slice a2 pn2 c2, .bool sx2, .int .i64 sk2, .int .i64 sy2, .slice b2 fn2 d2]] w' fun x w'' => x = .returned (.agg #[.int .i64 q2, .int .i64 k2, .bool f2, .string t2, .int .i64 x2, .int .i64 y2, .int .i64 z2]) ∧ Below w'.heap.size w' w'') (q : Int) (hq : (if q1 = 0 then q2 else q1) = q) (h : ¬ q = 0) :
    Calls Tryz.prog 15 #[.agg #[.int .i64 he, .int .i64 hp, .int .i64 ho, .int .i64 hn, .int .i64 hv], .string s, .agg #[.int .i64 e1, .bool hl1, .string l1, .int .i64 v1, .int .i64 o1, .int .i64 p1, .bool so1, .bool st1, .int .i64 sv1, .slice a1 pn1 c1, .bool sx1, .int .i64 sk1, .int .i64 sy1, .slice b1 fn1 d1], .agg #[.int .i64 e2, .bool hl2, .string l2, .int .i64 v2, .int .i64 o2, .int .i64 p2, .bool so2, .bool st2, .int .i64 sv2, .slice a2 pn2 c2, .bool sx2, .int .i64 sk2, .int .i64 sy2, .slice b2 fn2 d2]] w fun x w' => x = .returned (.agg #[.int .i64 q, .int .i64 0]) ∧ Below w.heap.size w w' := by
  have hOr := fun u w hu => cmpOr2 q1 q2 u w hu
  rw [hq] at hOr
  have h9 : (q != 0) = true := code_ne h
  clear hq h
  obtain ⟨W, hW⟩ : ∃ W, W = ((((w.alloc (.cells #[.int .i64 he, .int .i64 hp, .int .i64 ho, .int .i64 hn, .int .i64 hv] 43)).alloc (.cells #[.string s] 9)).alloc (.cells #[.int .i64 e1, .bool hl1, .string l1, .int .i64 v1, .int .i64 o1, .int .i64 p1, .bool so1, .bool st1, .int .i64 sv1, .slice a1 pn1 c1, .bool sx1, .int .i64 sk1, .int .i64 sy1, .slice b1 fn1 d1] 52)).alloc (.cells #[.int .i64 e2, .bool hl2, .string l2, .int .i64 v2, .int .i64 o2, .int .i64 p2, .bool so2, .bool st2, .int .i64 sv2, .slice a2 pn2 c2, .bool sx2, .int .i64 sk2, .int .i64 sy2, .slice b2 fn2 d2] 52)).alloc (.cells #[.int .i64 0, .int .i64 0] 58) := ⟨_, rfl⟩
  have HW : Hid (((((w.alloc (.cells #[.int .i64 he, .int .i64 hp, .int .i64 ho, .int .i64 hn, .int .i64 hv] 43)).alloc (.cells #[.string s] 9)).alloc (.cells #[.int .i64 e1, .bool hl1, .string l1, .int .i64 v1, .int .i64 o1, .int .i64 p1, .bool so1, .bool st1, .int .i64 sv1, .slice a1 pn1 c1, .bool sx1, .int .i64 sk1, .int .i64 sy1, .slice b1 fn1 d1] 52)).alloc (.cells #[.int .i64 e2, .bool hl2, .string l2, .int .i64 v2, .int .i64 o2, .int .i64 p2, .bool so2, .bool st2, .int .i64 sv2, .slice a2 pn2 c2, .bool sx2, .int .i64 sk2, .int .i64 sy2, .slice b2 fn2 d2] 52)).alloc (.cells #[.int .i64 0, .int .i64 0] 58) = W) := hW.symm
  have hB : Below w.heap.size w W := by rw [hW]; exact five_newB _ _ _ _ _
  have B0 : Bx5 W w.heap.size (.cells #[.int .i64 he, .int .i64 hp, .int .i64 ho, .int .i64 hn, .int .i64 hv] 43) (.cells #[.string s] 9) (.cells #[.int .i64 e1, .bool hl1, .string l1, .int .i64 v1, .int .i64 o1, .int .i64 p1, .bool so1, .bool st1, .int .i64 sv1, .slice a1 pn1 c1, .bool sx1, .int .i64 sk1, .int .i64 sy1, .slice b1 fn1 d1] 52) (.cells #[.int .i64 e2, .bool hl2, .string l2, .int .i64 v2, .int .i64 o2, .int .i64 p2, .bool so2, .bool st2, .int .i64 sv2, .slice a2 pn2 c2, .bool sx2, .int .i64 sk2, .int .i64 sy2, .slice b2 fn2 d2] 52) (.cells #[.int .i64 0, .int .i64 0] 58) := by rw [hW]; exact Bx5.new w _ _ _ _ _
  have HK : Hid (∀ w', Below W.heap.size W w' → Bx5 w' w.heap.size (.cells #[.int .i64 he, .int .i64 hp, .int .i64 ho, .int .i64 hn, .int .i64 hv] 43) (.cells #[.string s] 9) (.cells #[.int .i64 e1, .bool hl1, .string l1, .int .i64 v1, .int .i64 o1, .int .i64 p1, .bool so1, .bool st1, .int .i64 sv1, .slice a1 pn1 c1, .bool sx1, .int .i64 sk1, .int .i64 sy1, .slice b1 fn1 d1] 52) (.cells #[.int .i64 e2, .bool hl2, .string l2, .int .i64 v2, .int .i64 o2, .int .i64 p2, .bool so2, .bool st2, .int .i64 sv2, .slice a2 pn2 c2, .bool sx2, .int .i64 sk2, .int .i64 sy2, .slice b2 fn2 d2] 52) (.cells #[.int .i64 0, .int .i64 0] 58)) := fun w' hb => B0.below hb
  have hC : Calls Tryz.prog 52 #[.agg #[.int .i64 e1, .bool hl1, .string l1, .int .i64 v1, .int .i64 o1, .int .i64 p1, .bool so1, .bool st1, .int .i64 sv1, .slice a1 pn1 c1, .bool sx1, .int .i64 sk1, .int .i64 sy1, .slice b1 fn1 d1, .int .i64 e2, .bool hl2, .string l2, .int .i64 v2, .int .i64 o2, .int .i64 p2, .bool so2, .bool st2, .int .i64 sv2, .slice a2 pn2 c2, .bool sx2, .int .i64 sk2, .int .i64 sy2, .slice b2 fn2 d2], .func (.func 53) #[] #[.pointer (some ⟨w.heap.size, 0, none⟩), .pointer (some ⟨w.heap.size + 1, 0, none⟩)]] W fun x w' => x = .returned (.agg #[.int .i64 q1, .int .i64 k1, .bool f1, .string t1, .int .i64 x1, .int .i64 y1, .int .i64 z1, .int .i64 q2, .int .i64 k2, .bool f2, .string t2, .int .i64 x2, .int .i64 y2, .int .i64 z2]) ∧ Below W.heap.size W w' :=
    sampledBy_any e1 hl1 l1 v1 o1 p1 so1 st1 sv1 a1 pn1 c1 sx1 sk1 sy1 b1 fn1 d1 e2 hl2 l2 v2 o2 p2 so2 st2 sv2 a2 pn2 c2 sx2 sk2 sy2 b2 fn2 d2 q1 k1 f1 t1 x1 y1 z1 q2 k2 f2 t2 x2 y2 z2 w.heap.size W
      (fun w' hb => bothCl_any he hp ho hn hv s e1 hl1 l1 v1 o1 p1 so1 st1 sv1 a1 pn1 c1 sx1 sk1 sy1 b1 fn1 d1 q1 k1 f1 t1 x1 y1 z1 w.heap.size w' (HdS_of5 (HK.out _ hb).b0) (one_cellVB (HK.out _ hb).b1) (Array.getElem?_eq_some_iff.1 (HK.out _ hb).b1).1 (fun w3 hb3 => HS1 _ (below_after_of hB (below_after_of hb hb3))))
      (fun w' hb => bothCl_any he hp ho hn hv s e2 hl2 l2 v2 o2 p2 so2 st2 sv2 a2 pn2 c2 sx2 sk2 sy2 b2 fn2 d2 q2 k2 f2 t2 x2 y2 z2 w.heap.size w' (HdS_of5 (HK.out _ hb).b0) (one_cellVB (HK.out _ hb).b1) (Array.getElem?_eq_some_iff.1 (HK.out _ hb).b1).1 (fun w3 hb3 => HS2 _ (below_after_of hB (below_after_of hb hb3))))
  obtain ⟨⟨r0, r1, r2, r3, r4, r5, r6, r7, r8, r9, r10, r11, r12, r13⟩, -⟩ := fourteen B0.b2
  obtain ⟨⟨m0, m1, m2, m3, m4, m5, m6, m7, m8, m9, m10, m11, m12, m13⟩, -⟩ := fourteen B0.b3
  clear hW B0 HS1 HS2
  go_enter Tryz.func15, Tryz.ntmps15
  go_upto_region 1 with fail
  rw [HW.out]
  go_wp2_with fail
  refine hC.mono ?_
  rintro x w1 ⟨rfl, hb1⟩
  clear hC r0 r1 r2 r3 r4 r5 r6 r7 r8 r9 r10 r11 r12 r13 m0 m1 m2 m3 m4 m5 m6 m7 m8 m9 m10 m11 m12 m13
  obtain ⟨W1, hW1⟩ : ∃ W1, W1 = w1.alloc (.cells #[.int .i64 q1, .int .i64 k1, .bool f1, .string t1, .int .i64 x1, .int .i64 y1, .int .i64 z1, .int .i64 q2, .int .i64 k2, .bool f2, .string t2, .int .i64 x2, .int .i64 y2, .int .i64 z2] 113) := ⟨_, rfl⟩
  have HW1 : Hid (w1.alloc (.cells #[.int .i64 q1, .int .i64 k1, .bool f1, .string t1, .int .i64 x1, .int .i64 y1, .int .i64 z1, .int .i64 q2, .int .i64 k2, .bool f2, .string t2, .int .i64 x2, .int .i64 y2, .int .i64 z2] 113) = W1) := hW1.symm
  have hC1 : Below W.heap.size W W1 := by rw [hW1]; exact hb1.alloc hb1.size _
  have X1 : W1.heap[w1.heap.size]? = some (.cells #[.int .i64 q1, .int .i64 k1, .bool f1, .string t1, .int .i64 x1, .int .i64 y1, .int .i64 z1, .int .i64 q2, .int .i64 k2, .bool f2, .string t2, .int .i64 x2, .int .i64 y2, .int .i64 z2] 113) := by rw [hW1]; exact heap_alloc_new _ _
  have hg1 : w.heap.size + 4 < w1.heap.size := (Array.getElem?_eq_some_iff.1 (HK.out _ hb1).b4).1
  have hn1 : ¬ (w1.heap.size = w.heap.size + 4) := by omega
  have hn1' : ¬ (w.heap.size + 4 = w1.heap.size) := by omega
  clear hW1 hb1
  go_upto_region 2 with fail
  rw [HW1.out]
  obtain ⟨⟨u0, u1, u2, u3, u4, u5, u6, u7, u8, u9, u10, u11, u12, u13⟩, -⟩ := fourteen X1
  go_wp2_with fail
  refine (hOr _ _ (two_intsR rfl)).mono ?_
  rintro x w5 ⟨rfl, hw5⟩
  have hb5 : Below W1.heap.size W1 w5 := by rw [hw5]; exact one_new _
  have hC5 := below_after_of hC1 hb5
  have X5 := (hb5.block _ (Array.getElem?_eq_some_iff.1 X1).1).trans X1
  clear hw5 u0 u1 u2 u3 u4 u5 u6 u7 u8 u9 u10 u11 u12 u13 X1 hOr hb5 hC1
  obtain ⟨⟨u0, u1, u2, u3, u4, u5, u6, u7, u8, u9, u10, u11, u12, u13⟩, -⟩ := fourteen X5
  obtain ⟨g0, g1, i0, i1⟩ := two_cells (HK.out _ hC5).b4
  have hBB := below_after_of hB hC5
  clear HK hC5 X5
  go_wp2
  exact bodyPost_ret (v := .agg #[.int .i64 q, .int .i64 0]) (by simp [results, Tryz.results15, go_sem, *]) rfl ⟨rfl, (hBB.setCell (by dsimp only; omega) _).setCell (by dsimp only; omega) _⟩
set_option maxRecDepth 100000 in
set_option maxHeartbeats 4000000 in
theorem iboth_one (he hp ho hn hv : Int) (s : ByteArray) (e1 : Int) (hl1 : Bool) (l1 : ByteArray) (v1 o1 p1 : Int) (so1 st1 : Bool) (sv1 : Int) (a1 : Option Addr) (pn1 c1 : Nat) (sx1 : Bool) (sk1 sy1 : Int) (b1 : Option Addr) (fn1 d1 : Nat) (e2 : Int) (hl2 : Bool) (l2 : ByteArray) (v2 o2 p2 : Int) (so2 st2 : Bool) (sv2 : Int) (a2 : Option Addr) (pn2 c2 : Nat) (sx2 : Bool) (sk2 sy2 : Int) (b2 : Option Addr) (fn2 d2 : Nat) (k1 : Int) (f1 : Bool) (t1 : ByteArray) (x1 y1 z1 : Int) (k2 : Int) (f2 : Bool) (t2 : ByteArray) (x2 y2 z2 : Int) (w : World) (HS1 : ∀ w', Below w.heap.size w w' → Calls Tryz.prog 11 #[.agg #[.int .i64 he, .int .i64 hp, .int .i64 ho, .int .i64 hn, .int .i64 hv], .string s, .agg #[.int .i64 e1, .bool hl1, .string l1, .int .i64 v1, .int .i64 o1, .int .i64 p1, .bool so1, .bool st1, .int .i64 sv1, .slice a1 pn1 c1, .bool sx1, .int .i64 sk1, .int .i64 sy1, .slice b1 fn1 d1]] w' fun x w'' => x = .returned (.agg #[.int .i64 0, .int .i64 k1, .bool f1, .string t1, .int .i64 x1, .int .i64 y1, .int .i64 z1]) ∧ Below w'.heap.size w' w'') (HS2 : ∀ w', Below w.heap.size w w' → Calls Tryz.prog 11 #[.agg #[.int .i64 he, .int .i64 hp, .int .i64 ho, .int .i64 hn, .int .i64 hv], .string s, .agg #[.int .i64 e2, .bool hl2, .string l2, .int .i64 v2, .int .i64 o2, .int .i64 p2, .bool so2, .bool st2, .int .i64 sv2, .slice a2 pn2 c2, .bool sx2, .int .i64 sk2, .int .i64 sy2, .slice b2 fn2 d2]] w' fun x w'' => x = .returned (.agg #[.int .i64 0, .int .i64 k2, .bool f2, .string t2, .int .i64 x2, .int .i64 y2, .int .i64 z2]) ∧ Below w'.heap.size w' w'') (h : anQ k1 f1 t1 x1 y1 z1 k2 f2 t2 x2 y2 z2 = true) :
    Calls Tryz.prog 15 #[.agg #[.int .i64 he, .int .i64 hp, .int .i64 ho, .int .i64 hn, .int .i64 hv], .string s, .agg #[.int .i64 e1, .bool hl1, .string l1, .int .i64 v1, .int .i64 o1, .int .i64 p1, .bool so1, .bool st1, .int .i64 sv1, .slice a1 pn1 c1, .bool sx1, .int .i64 sk1, .int .i64 sy1, .slice b1 fn1 d1], .agg #[.int .i64 e2, .bool hl2, .string l2, .int .i64 v2, .int .i64 o2, .int .i64 p2, .bool so2, .bool st2, .int .i64 sv2, .slice a2 pn2 c2, .bool sx2, .int .i64 sk2, .int .i64 sy2, .slice b2 fn2 d2]] w fun x w' => x = .returned (.agg #[.int .i64 0, .int .i64 1]) ∧ Below w.heap.size w w' := by
  have hOr := fun u w hu => cmpOr2 0 0 u w hu
  have hN := fun w => answer_ne k1 f1 t1 x1 y1 z1 k2 f2 t2 x2 y2 z2 w
  rw [h] at hN
  rw [if_pos rfl] at hOr
  clear h
  obtain ⟨W, hW⟩ : ∃ W, W = ((((w.alloc (.cells #[.int .i64 he, .int .i64 hp, .int .i64 ho, .int .i64 hn, .int .i64 hv] 43)).alloc (.cells #[.string s] 9)).alloc (.cells #[.int .i64 e1, .bool hl1, .string l1, .int .i64 v1, .int .i64 o1, .int .i64 p1, .bool so1, .bool st1, .int .i64 sv1, .slice a1 pn1 c1, .bool sx1, .int .i64 sk1, .int .i64 sy1, .slice b1 fn1 d1] 52)).alloc (.cells #[.int .i64 e2, .bool hl2, .string l2, .int .i64 v2, .int .i64 o2, .int .i64 p2, .bool so2, .bool st2, .int .i64 sv2, .slice a2 pn2 c2, .bool sx2, .int .i64 sk2, .int .i64 sy2, .slice b2 fn2 d2] 52)).alloc (.cells #[.int .i64 0, .int .i64 0] 58) := ⟨_, rfl⟩
  have HW : Hid (((((w.alloc (.cells #[.int .i64 he, .int .i64 hp, .int .i64 ho, .int .i64 hn, .int .i64 hv] 43)).alloc (.cells #[.string s] 9)).alloc (.cells #[.int .i64 e1, .bool hl1, .string l1, .int .i64 v1, .int .i64 o1, .int .i64 p1, .bool so1, .bool st1, .int .i64 sv1, .slice a1 pn1 c1, .bool sx1, .int .i64 sk1, .int .i64 sy1, .slice b1 fn1 d1] 52)).alloc (.cells #[.int .i64 e2, .bool hl2, .string l2, .int .i64 v2, .int .i64 o2, .int .i64 p2, .bool so2, .bool st2, .int .i64 sv2, .slice a2 pn2 c2, .bool sx2, .int .i64 sk2, .int .i64 sy2, .slice b2 fn2 d2] 52)).alloc (.cells #[.int .i64 0, .int .i64 0] 58) = W) := hW.symm
  have hB : Below w.heap.size w W := by rw [hW]; exact five_newB _ _ _ _ _
  have B0 : Bx5 W w.heap.size (.cells #[.int .i64 he, .int .i64 hp, .int .i64 ho, .int .i64 hn, .int .i64 hv] 43) (.cells #[.string s] 9) (.cells #[.int .i64 e1, .bool hl1, .string l1, .int .i64 v1, .int .i64 o1, .int .i64 p1, .bool so1, .bool st1, .int .i64 sv1, .slice a1 pn1 c1, .bool sx1, .int .i64 sk1, .int .i64 sy1, .slice b1 fn1 d1] 52) (.cells #[.int .i64 e2, .bool hl2, .string l2, .int .i64 v2, .int .i64 o2, .int .i64 p2, .bool so2, .bool st2, .int .i64 sv2, .slice a2 pn2 c2, .bool sx2, .int .i64 sk2, .int .i64 sy2, .slice b2 fn2 d2] 52) (.cells #[.int .i64 0, .int .i64 0] 58) := by rw [hW]; exact Bx5.new w _ _ _ _ _
  have HK : Hid (∀ w', Below W.heap.size W w' → Bx5 w' w.heap.size (.cells #[.int .i64 he, .int .i64 hp, .int .i64 ho, .int .i64 hn, .int .i64 hv] 43) (.cells #[.string s] 9) (.cells #[.int .i64 e1, .bool hl1, .string l1, .int .i64 v1, .int .i64 o1, .int .i64 p1, .bool so1, .bool st1, .int .i64 sv1, .slice a1 pn1 c1, .bool sx1, .int .i64 sk1, .int .i64 sy1, .slice b1 fn1 d1] 52) (.cells #[.int .i64 e2, .bool hl2, .string l2, .int .i64 v2, .int .i64 o2, .int .i64 p2, .bool so2, .bool st2, .int .i64 sv2, .slice a2 pn2 c2, .bool sx2, .int .i64 sk2, .int .i64 sy2, .slice b2 fn2 d2] 52) (.cells #[.int .i64 0, .int .i64 0] 58)) := fun w' hb => B0.below hb
  have hC : Calls Tryz.prog 52 #[.agg #[.int .i64 e1, .bool hl1, .string l1, .int .i64 v1, .int .i64 o1, .int .i64 p1, .bool so1, .bool st1, .int .i64 sv1, .slice a1 pn1 c1, .bool sx1, .int .i64 sk1, .int .i64 sy1, .slice b1 fn1 d1, .int .i64 e2, .bool hl2, .string l2, .int .i64 v2, .int .i64 o2, .int .i64 p2, .bool so2, .bool st2, .int .i64 sv2, .slice a2 pn2 c2, .bool sx2, .int .i64 sk2, .int .i64 sy2, .slice b2 fn2 d2], .func (.func 53) #[] #[.pointer (some ⟨w.heap.size, 0, none⟩), .pointer (some ⟨w.heap.size + 1, 0, none⟩)]] W fun x w' => x = .returned (.agg #[.int .i64 0, .int .i64 k1, .bool f1, .string t1, .int .i64 x1, .int .i64 y1, .int .i64 z1, .int .i64 0, .int .i64 k2, .bool f2, .string t2, .int .i64 x2, .int .i64 y2, .int .i64 z2]) ∧ Below W.heap.size W w' :=
    sampledBy_any e1 hl1 l1 v1 o1 p1 so1 st1 sv1 a1 pn1 c1 sx1 sk1 sy1 b1 fn1 d1 e2 hl2 l2 v2 o2 p2 so2 st2 sv2 a2 pn2 c2 sx2 sk2 sy2 b2 fn2 d2 0 k1 f1 t1 x1 y1 z1 0 k2 f2 t2 x2 y2 z2 w.heap.size W
      (fun w' hb => bothCl_any he hp ho hn hv s e1 hl1 l1 v1 o1 p1 so1 st1 sv1 a1 pn1 c1 sx1 sk1 sy1 b1 fn1 d1 0 k1 f1 t1 x1 y1 z1 w.heap.size w' (HdS_of5 (HK.out _ hb).b0) (one_cellVB (HK.out _ hb).b1) (Array.getElem?_eq_some_iff.1 (HK.out _ hb).b1).1 (fun w3 hb3 => HS1 _ (below_after_of hB (below_after_of hb hb3))))
      (fun w' hb => bothCl_any he hp ho hn hv s e2 hl2 l2 v2 o2 p2 so2 st2 sv2 a2 pn2 c2 sx2 sk2 sy2 b2 fn2 d2 0 k2 f2 t2 x2 y2 z2 w.heap.size w' (HdS_of5 (HK.out _ hb).b0) (one_cellVB (HK.out _ hb).b1) (Array.getElem?_eq_some_iff.1 (HK.out _ hb).b1).1 (fun w3 hb3 => HS2 _ (below_after_of hB (below_after_of hb hb3))))
  obtain ⟨⟨r0, r1, r2, r3, r4, r5, r6, r7, r8, r9, r10, r11, r12, r13⟩, -⟩ := fourteen B0.b2
  obtain ⟨⟨m0, m1, m2, m3, m4, m5, m6, m7, m8, m9, m10, m11, m12, m13⟩, -⟩ := fourteen B0.b3
  clear hW B0 HS1 HS2
  go_enter Tryz.func15, Tryz.ntmps15
  go_upto_region 1 with fail
  rw [HW.out]
  go_wp2_with fail
  refine hC.mono ?_
  rintro x w1 ⟨rfl, hb1⟩
  clear hC r0 r1 r2 r3 r4 r5 r6 r7 r8 r9 r10 r11 r12 r13 m0 m1 m2 m3 m4 m5 m6 m7 m8 m9 m10 m11 m12 m13
  obtain ⟨W1, hW1⟩ : ∃ W1, W1 = w1.alloc (.cells #[.int .i64 0, .int .i64 k1, .bool f1, .string t1, .int .i64 x1, .int .i64 y1, .int .i64 z1, .int .i64 0, .int .i64 k2, .bool f2, .string t2, .int .i64 x2, .int .i64 y2, .int .i64 z2] 113) := ⟨_, rfl⟩
  have HW1 : Hid (w1.alloc (.cells #[.int .i64 0, .int .i64 k1, .bool f1, .string t1, .int .i64 x1, .int .i64 y1, .int .i64 z1, .int .i64 0, .int .i64 k2, .bool f2, .string t2, .int .i64 x2, .int .i64 y2, .int .i64 z2] 113) = W1) := hW1.symm
  have hC1 : Below W.heap.size W W1 := by rw [hW1]; exact hb1.alloc hb1.size _
  have X1 : W1.heap[w1.heap.size]? = some (.cells #[.int .i64 0, .int .i64 k1, .bool f1, .string t1, .int .i64 x1, .int .i64 y1, .int .i64 z1, .int .i64 0, .int .i64 k2, .bool f2, .string t2, .int .i64 x2, .int .i64 y2, .int .i64 z2] 113) := by rw [hW1]; exact heap_alloc_new _ _
  have hg1 : w.heap.size + 4 < w1.heap.size := (Array.getElem?_eq_some_iff.1 (HK.out _ hb1).b4).1
  have hn1 : ¬ (w1.heap.size = w.heap.size + 4) := by omega
  have hn1' : ¬ (w.heap.size + 4 = w1.heap.size) := by omega
  clear hW1 hb1
  go_upto_region 2 with fail
  rw [HW1.out]
  obtain ⟨⟨u0, u1, u2, u3, u4, u5, u6, u7, u8, u9, u10, u11, u12, u13⟩, -⟩ := fourteen X1
  go_wp2_with fail
  refine (hOr _ _ (two_intsR rfl)).mono ?_
  rintro x w5 ⟨rfl, hw5⟩
  have hb5 : Below W1.heap.size W1 w5 := by rw [hw5]; exact one_new _
  have hC5 := below_after_of hC1 hb5
  have X5 := (hb5.block _ (Array.getElem?_eq_some_iff.1 X1).1).trans X1
  clear hw5 u0 u1 u2 u3 u4 u5 u6 u7 u8 u9 u10 u11 u12 u13 X1 hOr hb5 hC1
  obtain ⟨⟨u0, u1, u2, u3, u4, u5, u6, u7, u8, u9, u10, u11, u12, u13⟩, -⟩ := fourteen X5
  obtain ⟨g0, g1, i0, i1⟩ := two_cells (HK.out _ hC5).b4
  have hBB := below_after_of hB hC5
  clear HK hC5 X5
  go_wp2
  exact bodyPost_ret (v := .agg #[.int .i64 0, .int .i64 1]) (by simp [results, Tryz.results15, go_sem, *]) rfl ⟨rfl, (hBB.setCell (by dsimp only; omega) _).setCell (by dsimp only; omega) _⟩
set_option maxRecDepth 100000 in
set_option maxHeartbeats 4000000 in
theorem iboth_two (he hp ho hn hv : Int) (s : ByteArray) (e1 : Int) (hl1 : Bool) (l1 : ByteArray) (v1 o1 p1 : Int) (so1 st1 : Bool) (sv1 : Int) (a1 : Option Addr) (pn1 c1 : Nat) (sx1 : Bool) (sk1 sy1 : Int) (b1 : Option Addr) (fn1 d1 : Nat) (e2 : Int) (hl2 : Bool) (l2 : ByteArray) (v2 o2 p2 : Int) (so2 st2 : Bool) (sv2 : Int) (a2 : Option Addr) (pn2 c2 : Nat) (sx2 : Bool) (sk2 sy2 : Int) (b2 : Option Addr) (fn2 d2 : Nat) (k1 : Int) (f1 : Bool) (t1 : ByteArray) (x1 y1 z1 : Int) (k2 : Int) (f2 : Bool) (t2 : ByteArray) (x2 y2 z2 : Int) (w : World) (HS1 : ∀ w', Below w.heap.size w w' → Calls Tryz.prog 11 #[.agg #[.int .i64 he, .int .i64 hp, .int .i64 ho, .int .i64 hn, .int .i64 hv], .string s, .agg #[.int .i64 e1, .bool hl1, .string l1, .int .i64 v1, .int .i64 o1, .int .i64 p1, .bool so1, .bool st1, .int .i64 sv1, .slice a1 pn1 c1, .bool sx1, .int .i64 sk1, .int .i64 sy1, .slice b1 fn1 d1]] w' fun x w'' => x = .returned (.agg #[.int .i64 0, .int .i64 k1, .bool f1, .string t1, .int .i64 x1, .int .i64 y1, .int .i64 z1]) ∧ Below w'.heap.size w' w'') (HS2 : ∀ w', Below w.heap.size w w' → Calls Tryz.prog 11 #[.agg #[.int .i64 he, .int .i64 hp, .int .i64 ho, .int .i64 hn, .int .i64 hv], .string s, .agg #[.int .i64 e2, .bool hl2, .string l2, .int .i64 v2, .int .i64 o2, .int .i64 p2, .bool so2, .bool st2, .int .i64 sv2, .slice a2 pn2 c2, .bool sx2, .int .i64 sk2, .int .i64 sy2, .slice b2 fn2 d2]] w' fun x w'' => x = .returned (.agg #[.int .i64 0, .int .i64 k2, .bool f2, .string t2, .int .i64 x2, .int .i64 y2, .int .i64 z2]) ∧ Below w'.heap.size w' w'') (h : anQ k1 f1 t1 x1 y1 z1 k2 f2 t2 x2 y2 z2 = false) :
    Calls Tryz.prog 15 #[.agg #[.int .i64 he, .int .i64 hp, .int .i64 ho, .int .i64 hn, .int .i64 hv], .string s, .agg #[.int .i64 e1, .bool hl1, .string l1, .int .i64 v1, .int .i64 o1, .int .i64 p1, .bool so1, .bool st1, .int .i64 sv1, .slice a1 pn1 c1, .bool sx1, .int .i64 sk1, .int .i64 sy1, .slice b1 fn1 d1], .agg #[.int .i64 e2, .bool hl2, .string l2, .int .i64 v2, .int .i64 o2, .int .i64 p2, .bool so2, .bool st2, .int .i64 sv2, .slice a2 pn2 c2, .bool sx2, .int .i64 sk2, .int .i64 sy2, .slice b2 fn2 d2]] w fun x w' => x = .returned (.agg #[.int .i64 0, .int .i64 2]) ∧ Below w.heap.size w w' := by
  have hOr := fun u w hu => cmpOr2 0 0 u w hu
  have hN := fun w => answer_ne k1 f1 t1 x1 y1 z1 k2 f2 t2 x2 y2 z2 w
  rw [h] at hN
  rw [if_pos rfl] at hOr
  clear h
  obtain ⟨W, hW⟩ : ∃ W, W = ((((w.alloc (.cells #[.int .i64 he, .int .i64 hp, .int .i64 ho, .int .i64 hn, .int .i64 hv] 43)).alloc (.cells #[.string s] 9)).alloc (.cells #[.int .i64 e1, .bool hl1, .string l1, .int .i64 v1, .int .i64 o1, .int .i64 p1, .bool so1, .bool st1, .int .i64 sv1, .slice a1 pn1 c1, .bool sx1, .int .i64 sk1, .int .i64 sy1, .slice b1 fn1 d1] 52)).alloc (.cells #[.int .i64 e2, .bool hl2, .string l2, .int .i64 v2, .int .i64 o2, .int .i64 p2, .bool so2, .bool st2, .int .i64 sv2, .slice a2 pn2 c2, .bool sx2, .int .i64 sk2, .int .i64 sy2, .slice b2 fn2 d2] 52)).alloc (.cells #[.int .i64 0, .int .i64 0] 58) := ⟨_, rfl⟩
  have HW : Hid (((((w.alloc (.cells #[.int .i64 he, .int .i64 hp, .int .i64 ho, .int .i64 hn, .int .i64 hv] 43)).alloc (.cells #[.string s] 9)).alloc (.cells #[.int .i64 e1, .bool hl1, .string l1, .int .i64 v1, .int .i64 o1, .int .i64 p1, .bool so1, .bool st1, .int .i64 sv1, .slice a1 pn1 c1, .bool sx1, .int .i64 sk1, .int .i64 sy1, .slice b1 fn1 d1] 52)).alloc (.cells #[.int .i64 e2, .bool hl2, .string l2, .int .i64 v2, .int .i64 o2, .int .i64 p2, .bool so2, .bool st2, .int .i64 sv2, .slice a2 pn2 c2, .bool sx2, .int .i64 sk2, .int .i64 sy2, .slice b2 fn2 d2] 52)).alloc (.cells #[.int .i64 0, .int .i64 0] 58) = W) := hW.symm
  have hB : Below w.heap.size w W := by rw [hW]; exact five_newB _ _ _ _ _
  have B0 : Bx5 W w.heap.size (.cells #[.int .i64 he, .int .i64 hp, .int .i64 ho, .int .i64 hn, .int .i64 hv] 43) (.cells #[.string s] 9) (.cells #[.int .i64 e1, .bool hl1, .string l1, .int .i64 v1, .int .i64 o1, .int .i64 p1, .bool so1, .bool st1, .int .i64 sv1, .slice a1 pn1 c1, .bool sx1, .int .i64 sk1, .int .i64 sy1, .slice b1 fn1 d1] 52) (.cells #[.int .i64 e2, .bool hl2, .string l2, .int .i64 v2, .int .i64 o2, .int .i64 p2, .bool so2, .bool st2, .int .i64 sv2, .slice a2 pn2 c2, .bool sx2, .int .i64 sk2, .int .i64 sy2, .slice b2 fn2 d2] 52) (.cells #[.int .i64 0, .int .i64 0] 58) := by rw [hW]; exact Bx5.new w _ _ _ _ _
  have HK : Hid (∀ w', Below W.heap.size W w' → Bx5 w' w.heap.size (.cells #[.int .i64 he, .int .i64 hp, .int .i64 ho, .int .i64 hn, .int .i64 hv] 43) (.cells #[.string s] 9) (.cells #[.int .i64 e1, .bool hl1, .string l1, .int .i64 v1, .int .i64 o1, .int .i64 p1, .bool so1, .bool st1, .int .i64 sv1, .slice a1 pn1 c1, .bool sx1, .int .i64 sk1, .int .i64 sy1, .slice b1 fn1 d1] 52) (.cells #[.int .i64 e2, .bool hl2, .string l2, .int .i64 v2, .int .i64 o2, .int .i64 p2, .bool so2, .bool st2, .int .i64 sv2, .slice a2 pn2 c2, .bool sx2, .int .i64 sk2, .int .i64 sy2, .slice b2 fn2 d2] 52) (.cells #[.int .i64 0, .int .i64 0] 58)) := fun w' hb => B0.below hb
  have hC : Calls Tryz.prog 52 #[.agg #[.int .i64 e1, .bool hl1, .string l1, .int .i64 v1, .int .i64 o1, .int .i64 p1, .bool so1, .bool st1, .int .i64 sv1, .slice a1 pn1 c1, .bool sx1, .int .i64 sk1, .int .i64 sy1, .slice b1 fn1 d1, .int .i64 e2, .bool hl2, .string l2, .int .i64 v2, .int .i64 o2, .int .i64 p2, .bool so2, .bool st2, .int .i64 sv2, .slice a2 pn2 c2, .bool sx2, .int .i64 sk2, .int .i64 sy2, .slice b2 fn2 d2], .func (.func 53) #[] #[.pointer (some ⟨w.heap.size, 0, none⟩), .pointer (some ⟨w.heap.size + 1, 0, none⟩)]] W fun x w' => x = .returned (.agg #[.int .i64 0, .int .i64 k1, .bool f1, .string t1, .int .i64 x1, .int .i64 y1, .int .i64 z1, .int .i64 0, .int .i64 k2, .bool f2, .string t2, .int .i64 x2, .int .i64 y2, .int .i64 z2]) ∧ Below W.heap.size W w' :=
    sampledBy_any e1 hl1 l1 v1 o1 p1 so1 st1 sv1 a1 pn1 c1 sx1 sk1 sy1 b1 fn1 d1 e2 hl2 l2 v2 o2 p2 so2 st2 sv2 a2 pn2 c2 sx2 sk2 sy2 b2 fn2 d2 0 k1 f1 t1 x1 y1 z1 0 k2 f2 t2 x2 y2 z2 w.heap.size W
      (fun w' hb => bothCl_any he hp ho hn hv s e1 hl1 l1 v1 o1 p1 so1 st1 sv1 a1 pn1 c1 sx1 sk1 sy1 b1 fn1 d1 0 k1 f1 t1 x1 y1 z1 w.heap.size w' (HdS_of5 (HK.out _ hb).b0) (one_cellVB (HK.out _ hb).b1) (Array.getElem?_eq_some_iff.1 (HK.out _ hb).b1).1 (fun w3 hb3 => HS1 _ (below_after_of hB (below_after_of hb hb3))))
      (fun w' hb => bothCl_any he hp ho hn hv s e2 hl2 l2 v2 o2 p2 so2 st2 sv2 a2 pn2 c2 sx2 sk2 sy2 b2 fn2 d2 0 k2 f2 t2 x2 y2 z2 w.heap.size w' (HdS_of5 (HK.out _ hb).b0) (one_cellVB (HK.out _ hb).b1) (Array.getElem?_eq_some_iff.1 (HK.out _ hb).b1).1 (fun w3 hb3 => HS2 _ (below_after_of hB (below_after_of hb hb3))))
  obtain ⟨⟨r0, r1, r2, r3, r4, r5, r6, r7, r8, r9, r10, r11, r12, r13⟩, -⟩ := fourteen B0.b2
  obtain ⟨⟨m0, m1, m2, m3, m4, m5, m6, m7, m8, m9, m10, m11, m12, m13⟩, -⟩ := fourteen B0.b3
  clear hW B0 HS1 HS2
  go_enter Tryz.func15, Tryz.ntmps15
  go_upto_region 1 with fail
  rw [HW.out]
  go_wp2_with fail
  refine hC.mono ?_
  rintro x w1 ⟨rfl, hb1⟩
  clear hC r0 r1 r2 r3 r4 r5 r6 r7 r8 r9 r10 r11 r12 r13 m0 m1 m2 m3 m4 m5 m6 m7 m8 m9 m10 m11 m12 m13
  obtain ⟨W1, hW1⟩ : ∃ W1, W1 = w1.alloc (.cells #[.int .i64 0, .int .i64 k1, .bool f1, .string t1, .int .i64 x1, .int .i64 y1, .int .i64 z1, .int .i64 0, .int .i64 k2, .bool f2, .string t2, .int .i64 x2, .int .i64 y2, .int .i64 z2] 113) := ⟨_, rfl⟩
  have HW1 : Hid (w1.alloc (.cells #[.int .i64 0, .int .i64 k1, .bool f1, .string t1, .int .i64 x1, .int .i64 y1, .int .i64 z1, .int .i64 0, .int .i64 k2, .bool f2, .string t2, .int .i64 x2, .int .i64 y2, .int .i64 z2] 113) = W1) := hW1.symm
  have hC1 : Below W.heap.size W W1 := by rw [hW1]; exact hb1.alloc hb1.size _
  have X1 : W1.heap[w1.heap.size]? = some (.cells #[.int .i64 0, .int .i64 k1, .bool f1, .string t1, .int .i64 x1, .int .i64 y1, .int .i64 z1, .int .i64 0, .int .i64 k2, .bool f2, .string t2, .int .i64 x2, .int .i64 y2, .int .i64 z2] 113) := by rw [hW1]; exact heap_alloc_new _ _
  have hg1 : w.heap.size + 4 < w1.heap.size := (Array.getElem?_eq_some_iff.1 (HK.out _ hb1).b4).1
  have hn1 : ¬ (w1.heap.size = w.heap.size + 4) := by omega
  have hn1' : ¬ (w.heap.size + 4 = w1.heap.size) := by omega
  clear hW1 hb1
  go_upto_region 2 with fail
  rw [HW1.out]
  obtain ⟨⟨u0, u1, u2, u3, u4, u5, u6, u7, u8, u9, u10, u11, u12, u13⟩, -⟩ := fourteen X1
  go_wp2_with fail
  refine (hOr _ _ (two_intsR rfl)).mono ?_
  rintro x w5 ⟨rfl, hw5⟩
  have hb5 : Below W1.heap.size W1 w5 := by rw [hw5]; exact one_new _
  have hC5 := below_after_of hC1 hb5
  have X5 := (hb5.block _ (Array.getElem?_eq_some_iff.1 X1).1).trans X1
  clear hw5 u0 u1 u2 u3 u4 u5 u6 u7 u8 u9 u10 u11 u12 u13 X1 hOr hb5 hC1
  obtain ⟨⟨u0, u1, u2, u3, u4, u5, u6, u7, u8, u9, u10, u11, u12, u13⟩, -⟩ := fourteen X5
  obtain ⟨g0, g1, i0, i1⟩ := two_cells (HK.out _ hC5).b4
  have hBB := below_after_of hB hC5
  clear HK hC5 X5
  go_wp2
  exact bodyPost_ret (v := .agg #[.int .i64 0, .int .i64 2]) (by simp [results, Tryz.results15, go_sem, *]) rfl ⟨rfl, (hBB.setCell (by dsimp only; omega) _).setCell (by dsimp only; omega) _⟩
end U
end Go.Proofs.YtdbbmclobmigdaaGreat

/- Two replies held against one another: both models, at every argument. -/
namespace Go.Proofs.YtdbbmclobmigdaaGreat
open Go.RowKit
namespace U
/-- The code and the value that are told. -/
def bvC (q1 q2 : Int) : Int := if q1 = 0 then q2 else q1
def bvV (q1 q2 : Int) (b : Bool) : Int := if q1 = 0 then (if q2 = 0 then (if b = true then 1 else 2) else 0) else 0
theorem specBoth_gen (he hp ho hn hv : Int) (s : ByteArray) (e1 : Int) (hl1 : Bool) (l1 : ByteArray) (v1 o1 p1 : Int) (so1 st1 : Bool) (sv1 : Int) (a1 : Option Addr) (pn1 c1 : Nat) (sx1 : Bool) (sk1 sy1 : Int) (b1 : Option Addr) (fn1 d1 : Nat) (e2 : Int) (hl2 : Bool) (l2 : ByteArray) (v2 o2 p2 : Int) (so2 st2 : Bool) (sv2 : Int) (a2 : Option Addr) (pn2 c2 : Nat) (sx2 : Bool) (sk2 sy2 : Int) (b2 : Option Addr) (fn2 d2 : Nat) (q1 k1 : Int) (f1 : Bool) (t1 : ByteArray) (x1 y1 z1 : Int) (q2 k2 : Int) (f2 : Bool) (t2 : ByteArray) (x2 y2 z2 : Int) (w : World) (HS1 : ∀ w', Below w.heap.size w w' → Calls Tryz.prog 8 #[.agg #[.int .i64 he, .int .i64 hp, .int .i64 ho, .int .i64 hn, .int .i64 hv], .string s, .agg #[.int .i64 e1, .bool hl1, .string l1, .int .i64 v1, .int .i64 o1, .int .i64 p1, .bool so1, .bool st1, .int .i64 sv1, .slice a1 pn1 c1, .bool sx1, .int .i64 sk1, .int .i64 sy1, .slice b1 fn1 d1]] w' fun x w'' => x = .returned (.agg #[.int .i64 q1, .int .i64 k1, .bool f1, .string t1, .int .i64 x1, .int .i64 y1, .int .i64 z1]) ∧ Below w'.heap.size w' w'') (HS2 : ∀ w', Below w.heap.size w w' → Calls Tryz.prog 8 #[.agg #[.int .i64 he, .int .i64 hp, .int .i64 ho, .int .i64 hn, .int .i64 hv], .string s, .agg #[.int .i64 e2, .bool hl2, .string l2, .int .i64 v2, .int .i64 o2, .int .i64 p2, .bool so2, .bool st2, .int .i64 sv2, .slice a2 pn2 c2, .bool sx2, .int .i64 sk2, .int .i64 sy2, .slice b2 fn2 d2]] w' fun x w'' => x = .returned (.agg #[.int .i64 q2, .int .i64 k2, .bool f2, .string t2, .int .i64 x2, .int .i64 y2, .int .i64 z2]) ∧ Below w'.heap.size w' w'') :
    Calls Tryz.prog 14 #[.agg #[.int .i64 he, .int .i64 hp, .int .i64 ho, .int .i64 hn, .int .i64 hv], .string s, .agg #[.int .i64 e1, .bool hl1, .string l1, .int .i64 v1, .int .i64 o1, .int .i64 p1, .bool so1, .bool st1, .int .i64 sv1, .slice a1 pn1 c1, .bool sx1, .int .i64 sk1, .int .i64 sy1, .slice b1 fn1 d1], .agg #[.int .i64 e2, .bool hl2, .string l2, .int .i64 v2, .int .i64 o2, .int .i64 p2, .bool so2, .bool st2, .int .i64 sv2, .slice a2 pn2 c2, .bool sx2, .int .i64 sk2, .int .i64 sy2, .slice b2 fn2 d2]] w fun x w' => x = .returned (.agg #[.int .i64 (bvC q1 q2), .int .i64 (bvV q1 q2 (anQ k1 f1 t1 x1 y1 z1 k2 f2 t2 x2 y2 z2))]) ∧ Below w.heap.size w w' := by
  unfold bvV bvC
  by_cases h1 : q1 = 0
  · by_cases h2 : q2 = 0
    · subst h1 h2
      rw [if_pos rfl, if_pos rfl]
      rcases Bool.eq_false_or_eq_true (anQ k1 f1 t1 x1 y1 z1 k2 f2 t2 x2 y2 z2) with h | h
      · rw [h]
        exact both_3 he hp ho hn hv s e1 hl1 l1 v1 o1 p1 so1 st1 sv1 a1 pn1 c1 sx1 sk1 sy1 b1 fn1 d1 e2 hl2 l2 v2 o2 p2 so2 st2 sv2 a2 pn2 c2 sx2 sk2 sy2 b2 fn2 d2 k1 f1 t1 x1 y1 z1 k2 f2 t2 x2 y2 z2 w HS1 HS2 h
      · rw [h]
        exact both_4 he hp ho hn hv s e1 hl1 l1 v1 o1 p1 so1 st1 sv1 a1 pn1 c1 sx1 sk1 sy1 b1 fn1 d1 e2 hl2 l2 v2 o2 p2 so2 st2 sv2 a2 pn2 c2 sx2 sk2 sy2 b2 fn2 d2 k1 f1 t1 x1 y1 z1 k2 f2 t2 x2 y2 z2 w HS1 HS2 h
    · subst h1
      rw [if_pos rfl, if_neg h2]
      exact both_2 he hp ho hn hv s e1 hl1 l1 v1 o1 p1 so1 st1 sv1 a1 pn1 c1 sx1 sk1 sy1 b1 fn1 d1 e2 hl2 l2 v2 o2 p2 so2 st2 sv2 a2 pn2 c2 sx2 sk2 sy2 b2 fn2 d2 k1 f1 t1 x1 y1 z1 q2 k2 f2 t2 x2 y2 z2 w HS1 HS2 h2
  · rw [if_neg h1, if_neg h1]
    exact both_1 he hp ho hn hv s e1 hl1 l1 v1 o1 p1 so1 st1 sv1 a1 pn1 c1 sx1 sk1 sy1 b1 fn1 d1 e2 hl2 l2 v2 o2 p2 so2 st2 sv2 a2 pn2 c2 sx2 sk2 sy2 b2 fn2 d2 q1 k1 f1 t1 x1 y1 z1 w HS1 h1
theorem implBoth_gen (he hp ho hn hv : Int) (s : ByteArray) (e1 : Int) (hl1 : Bool) (l1 : ByteArray) (v1 o1 p1 : Int) (so1 st1 : Bool) (sv1 : Int) (a1 : Option Addr) (pn1 c1 : Nat) (sx1 : Bool) (sk1 sy1 : Int) (b1 : Option Addr) (fn1 d1 : Nat) (e2 : Int) (hl2 : Bool) (l2 : ByteArray) (v2 o2 p2 : Int) (so2 st2 : Bool) (sv2 : Int) (a2 : Option Addr) (pn2 c2 : Nat) (sx2 : Bool) (sk2 sy2 : Int) (b2 : Option Addr) (fn2 d2 : Nat) (q1 k1 : Int) (f1 : Bool) (t1 : ByteArray) (x1 y1 z1 : Int) (q2 k2 : Int) (f2 : Bool) (t2 : ByteArray) (x2 y2 z2 : Int) (w : World) (HS1 : ∀ w', Below w.heap.size w w' → Calls Tryz.prog 11 #[.agg #[.int .i64 he, .int .i64 hp, .int .i64 ho, .int .i64 hn, .int .i64 hv], .string s, .agg #[.int .i64 e1, .bool hl1, .string l1, .int .i64 v1, .int .i64 o1, .int .i64 p1, .bool so1, .bool st1, .int .i64 sv1, .slice a1 pn1 c1, .bool sx1, .int .i64 sk1, .int .i64 sy1, .slice b1 fn1 d1]] w' fun x w'' => x = .returned (.agg #[.int .i64 q1, .int .i64 k1, .bool f1, .string t1, .int .i64 x1, .int .i64 y1, .int .i64 z1]) ∧ Below w'.heap.size w' w'') (HS2 : ∀ w', Below w.heap.size w w' → Calls Tryz.prog 11 #[.agg #[.int .i64 he, .int .i64 hp, .int .i64 ho, .int .i64 hn, .int .i64 hv], .string s, .agg #[.int .i64 e2, .bool hl2, .string l2, .int .i64 v2, .int .i64 o2, .int .i64 p2, .bool so2, .bool st2, .int .i64 sv2, .slice a2 pn2 c2, .bool sx2, .int .i64 sk2, .int .i64 sy2, .slice b2 fn2 d2]] w' fun x w'' => x = .returned (.agg #[.int .i64 q2, .int .i64 k2, .bool f2, .string t2, .int .i64 x2, .int .i64 y2, .int .i64 z2]) ∧ Below w'.heap.size w' w'') :
    Calls Tryz.prog 15 #[.agg #[.int .i64 he, .int .i64 hp, .int .i64 ho, .int .i64 hn, .int .i64 hv], .string s, .agg #[.int .i64 e1, .bool hl1, .string l1, .int .i64 v1, .int .i64 o1, .int .i64 p1, .bool so1, .bool st1, .int .i64 sv1, .slice a1 pn1 c1, .bool sx1, .int .i64 sk1, .int .i64 sy1, .slice b1 fn1 d1], .agg #[.int .i64 e2, .bool hl2, .string l2, .int .i64 v2, .int .i64 o2, .int .i64 p2, .bool so2, .bool st2, .int .i64 sv2, .slice a2 pn2 c2, .bool sx2, .int .i64 sk2, .int .i64 sy2, .slice b2 fn2 d2]] w fun x w' => x = .returned (.agg #[.int .i64 (bvC q1 q2), .int .i64 (bvV q1 q2 (anQ k1 f1 t1 x1 y1 z1 k2 f2 t2 x2 y2 z2))]) ∧ Below w.heap.size w w' := by
  unfold bvV bvC
  by_cases h1 : q1 = 0
  · by_cases h2 : q2 = 0
    · subst h1 h2
      rw [if_pos rfl, if_pos rfl]
      rcases Bool.eq_false_or_eq_true (anQ k1 f1 t1 x1 y1 z1 k2 f2 t2 x2 y2 z2) with h | h
      · rw [h]
        exact iboth_one he hp ho hn hv s e1 hl1 l1 v1 o1 p1 so1 st1 sv1 a1 pn1 c1 sx1 sk1 sy1 b1 fn1 d1 e2 hl2 l2 v2 o2 p2 so2 st2 sv2 a2 pn2 c2 sx2 sk2 sy2 b2 fn2 d2 k1 f1 t1 x1 y1 z1 k2 f2 t2 x2 y2 z2 w HS1 HS2 h
      · rw [h]
        exact iboth_two he hp ho hn hv s e1 hl1 l1 v1 o1 p1 so1 st1 sv1 a1 pn1 c1 sx1 sk1 sy1 b1 fn1 d1 e2 hl2 l2 v2 o2 p2 so2 st2 sv2 a2 pn2 c2 sx2 sk2 sy2 b2 fn2 d2 k1 f1 t1 x1 y1 z1 k2 f2 t2 x2 y2 z2 w HS1 HS2 h
    · simp only [if_pos h1, if_neg h2]
      exact iboth_bad he hp ho hn hv s e1 hl1 l1 v1 o1 p1 so1 st1 sv1 a1 pn1 c1 sx1 sk1 sy1 b1 fn1 d1 e2 hl2 l2 v2 o2 p2 so2 st2 sv2 a2 pn2 c2 sx2 sk2 sy2 b2 fn2 d2 q1 k1 f1 t1 x1 y1 z1 q2 k2 f2 t2 x2 y2 z2 w HS1 HS2 q2 (if_pos h1) h2
  · rw [if_neg h1, if_neg h1]
    exact iboth_bad he hp ho hn hv s e1 hl1 l1 v1 o1 p1 so1 st1 sv1 a1 pn1 c1 sx1 sk1 sy1 b1 fn1 d1 e2 hl2 l2 v2 o2 p2 so2 st2 sv2 a2 pn2 c2 sx2 sk2 sy2 b2 fn2 d2 q1 k1 f1 t1 x1 y1 z1 q2 k2 f2 t2 x2 y2 z2 w HS1 HS2 q1 (if_neg h1) h1
/-- What is told of two that are seen. -/
def BvOf (u1 u2 : Value) (C V : Int) : Prop := ∃ q1 k1 f1 t1 x1 y1 z1 q2 k2 f2 t2 x2 y2 z2, u1 = .agg #[.int .i64 q1, .int .i64 k1, .bool f1, .string t1, .int .i64 x1, .int .i64 y1, .int .i64 z1] ∧ u2 = .agg #[.int .i64 q2, .int .i64 k2, .bool f2, .string t2, .int .i64 x2, .int .i64 y2, .int .i64 z2] ∧ bvC q1 q2 = C ∧ bvV q1 q2 (anQ k1 f1 t1 x1 y1 z1 k2 f2 t2 x2 y2 z2) = V
theorem BvOf.ex (he hp ho hn hv : Int) (s : ByteArray) (e1 : Int) (hl1 : Bool) (l1 : ByteArray) (v1 o1 p1 : Int) (so1 st1 : Bool) (sv1 : Int) (ps1 : List Int) (sx1 : Bool) (sk1 sy1 : Int) (m1 : Prl) (e2 : Int) (hl2 : Bool) (l2 : ByteArray) (v2 o2 p2 : Int) (so2 st2 : Bool) (sv2 : Int) (ps2 : List Int) (sx2 : Bool) (sk2 sy2 : Int) (m2 : Prl) : ∃ C V, BvOf (seeVal he hp ho hn hv s e1 hl1 l1 v1 o1 p1 so1 st1 sv1 ps1 sx1 sk1 sy1 m1) (seeVal he hp ho hn hv s e2 hl2 l2 v2 o2 p2 so2 st2 sv2 ps2 sx2 sk2 sy2 m2) C V := by
  obtain ⟨q1, k1, f1, t1, x1, y1, z1, h1⟩ := seeV_shape he hp ho hn hv s e1 hl1 l1 v1 o1 p1 so1 st1 sv1 ps1 sx1 sk1 sy1 m1
  obtain ⟨q2, k2, f2, t2, x2, y2, z2, h2⟩ := seeV_shape he hp ho hn hv s e2 hl2 l2 v2 o2 p2 so2 st2 sv2 ps2 sx2 sk2 sy2 m2
  exact ⟨_, _, q1, k1, f1, t1, x1, y1, z1, q2, k2, f2, t2, x2, y2, z2, h1, h2, rfl, rfl⟩
set_option maxRecDepth 100000 in
theorem specBoth_at (he hp ho hn hv : Int) (s : ByteArray) (hls : s.size ≤ 1048576) (e1 : Int) (hl1 : Bool) (l1 : ByteArray) (v1 o1 p1 : Int) (so1 st1 : Bool) (sv1 : Int) (ps1 : List Int) (sx1 : Bool) (sk1 sy1 : Int) (m1 : Prl) (e2 : Int) (hl2 : Bool) (l2 : ByteArray) (v2 o2 p2 : Int) (so2 st2 : Bool) (sv2 : Int) (ps2 : List Int) (sx2 : Bool) (sk2 sy2 : Int) (m2 : Prl) (C V : Int) (hCV : BvOf (seeVal he hp ho hn hv s e1 hl1 l1 v1 o1 p1 so1 st1 sv1 ps1 sx1 sk1 sy1 m1) (seeVal he hp ho hn hv s e2 hl2 l2 v2 o2 p2 so2 st2 sv2 ps2 sx2 sk2 sy2 m2) C V) (hs1 : l1.size ≤ 1048576) (hp1 : ps1.length ≤ 1048576) (hs2 : l2.size ≤ 1048576) (hp2 : ps2.length ≤ 1048576) (a1 b1 a2 b2 : Option Addr) (c1 d1 c2 d2 : Nat) (w : World) (I1 : Ints .i64 w (.slice a1 ps1.length c1) ps1) (P1 : Prs w (.slice b1 m1.length d1) m1) (I2 : Ints .i64 w (.slice a2 ps2.length c2) ps2) (P2 : Prs w (.slice b2 m2.length d2) m2) :
    Calls Tryz.prog 14 #[.agg #[.int .i64 he, .int .i64 hp, .int .i64 ho, .int .i64 hn, .int .i64 hv], .string s, .agg #[.int .i64 e1, .bool hl1, .string l1, .int .i64 v1, .int .i64 o1, .int .i64 p1, .bool so1, .bool st1, .int .i64 sv1, .slice a1 ps1.length c1, .bool sx1, .int .i64 sk1, .int .i64 sy1, .slice b1 m1.length d1], .agg #[.int .i64 e2, .bool hl2, .string l2, .int .i64 v2, .int .i64 o2, .int .i64 p2, .bool so2, .bool st2, .int .i64 sv2, .slice a2 ps2.length c2, .bool sx2, .int .i64 sk2, .int .i64 sy2, .slice b2 m2.length d2]] w fun x w' => x = .returned (.agg #[.int .i64 C, .int .i64 V]) ∧ Below w.heap.size w w' := by
  obtain ⟨q1, k1, f1, t1, x1, y1, z1, q2, k2, f2, t2, x2, y2, z2, e1', e2', rfl, rfl⟩ := hCV
  refine specBoth_gen he hp ho hn hv s e1 hl1 l1 v1 o1 p1 so1 st1 sv1 a1 _ c1 sx1 sk1 sy1 b1 _ d1 e2 hl2 l2 v2 o2 p2 so2 st2 sv2 a2 _ c2 sx2 sk2 sy2 b2 _ d2 q1 k1 f1 t1 x1 y1 z1 q2 k2 f2 t2 x2 y2 z2 w (fun w' hb => ?_) (fun w' hb => ?_)
  · have h := specSeeReply_any he hp ho hn hv s e1 hl1 l1 v1 o1 p1 so1 st1 sv1 _ sx1 sk1 sy1 _ ps1 m1 w' (I1.below hb) (P1.below hb) hs1 hp1 hls
    rw [e1'] at h
    unfold hdV rpV at h
    exact h
  · have h := specSeeReply_any he hp ho hn hv s e2 hl2 l2 v2 o2 p2 so2 st2 sv2 _ sx2 sk2 sy2 _ ps2 m2 w' (I2.below hb) (P2.below hb) hs2 hp2 hls
    rw [e2'] at h
    unfold hdV rpV at h
    exact h
set_option maxRecDepth 100000 in
theorem implBoth_at (he hp ho hn hv : Int) (s : ByteArray) (hls : s.size ≤ 1048576) (e1 : Int) (hl1 : Bool) (l1 : ByteArray) (v1 o1 p1 : Int) (so1 st1 : Bool) (sv1 : Int) (ps1 : List Int) (sx1 : Bool) (sk1 sy1 : Int) (m1 : Prl) (e2 : Int) (hl2 : Bool) (l2 : ByteArray) (v2 o2 p2 : Int) (so2 st2 : Bool) (sv2 : Int) (ps2 : List Int) (sx2 : Bool) (sk2 sy2 : Int) (m2 : Prl) (C V : Int) (hCV : BvOf (seeVal he hp ho hn hv s e1 hl1 l1 v1 o1 p1 so1 st1 sv1 ps1 sx1 sk1 sy1 m1) (seeVal he hp ho hn hv s e2 hl2 l2 v2 o2 p2 so2 st2 sv2 ps2 sx2 sk2 sy2 m2) C V) (hs1 : l1.size ≤ 1048576) (hp1 : ps1.length ≤ 1048576) (hm1 : m1.length ≤ 1048576) (hs2 : l2.size ≤ 1048576) (hp2 : ps2.length ≤ 1048576) (hm2 : m2.length ≤ 1048576) (a1 b1 a2 b2 : Option Addr) (c1 d1 c2 d2 : Nat) (w : World) (I1 : Ints .i64 w (.slice a1 ps1.length c1) ps1) (P1 : Prs w (.slice b1 m1.length d1) m1) (I2 : Ints .i64 w (.slice a2 ps2.length c2) ps2) (P2 : Prs w (.slice b2 m2.length d2) m2) :
    Calls Tryz.prog 15 #[.agg #[.int .i64 he, .int .i64 hp, .int .i64 ho, .int .i64 hn, .int .i64 hv], .string s, .agg #[.int .i64 e1, .bool hl1, .string l1, .int .i64 v1, .int .i64 o1, .int .i64 p1, .bool so1, .bool st1, .int .i64 sv1, .slice a1 ps1.length c1, .bool sx1, .int .i64 sk1, .int .i64 sy1, .slice b1 m1.length d1], .agg #[.int .i64 e2, .bool hl2, .string l2, .int .i64 v2, .int .i64 o2, .int .i64 p2, .bool so2, .bool st2, .int .i64 sv2, .slice a2 ps2.length c2, .bool sx2, .int .i64 sk2, .int .i64 sy2, .slice b2 m2.length d2]] w fun x w' => x = .returned (.agg #[.int .i64 C, .int .i64 V]) ∧ Below w.heap.size w w' := by
  obtain ⟨q1, k1, f1, t1, x1, y1, z1, q2, k2, f2, t2, x2, y2, z2, e1', e2', rfl, rfl⟩ := hCV
  refine implBoth_gen he hp ho hn hv s e1 hl1 l1 v1 o1 p1 so1 st1 sv1 a1 _ c1 sx1 sk1 sy1 b1 _ d1 e2 hl2 l2 v2 o2 p2 so2 st2 sv2 a2 _ c2 sx2 sk2 sy2 b2 _ d2 q1 k1 f1 t1 x1 y1 z1 q2 k2 f2 t2 x2 y2 z2 w (fun w' hb => ?_) (fun w' hb => ?_)
  · have h := implSeeReply_any he hp ho hn hv s e1 hl1 l1 v1 o1 p1 so1 st1 sv1 _ sx1 sk1 sy1 _ ps1 m1 w' (I1.below hb) (P1.below hb) hs1 hp1 hls hm1
    rw [e1'] at h
    unfold hdV rpV at h
    exact h
  · have h := implSeeReply_any he hp ho hn hv s e2 hl2 l2 v2 o2 p2 so2 st2 sv2 _ sx2 sk2 sy2 _ ps2 m2 w' (I2.below hb) (P2.below hb) hs2 hp2 hls hm2
    rw [e2'] at h
    unfold hdV rpV at h
    exact h
end U
end Go.Proofs.YtdbbmclobmigdaaGreat
