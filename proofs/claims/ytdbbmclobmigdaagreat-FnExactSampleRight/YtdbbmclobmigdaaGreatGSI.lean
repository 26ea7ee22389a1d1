/- Joined: what the texts behind it need. -/
import Derived.Test.YtdbbmclobmigdaaGreatGSH
import Derived.Deep.Cut
import Derived.Test.YtdbbmclobmigdaaGreatGSD
import Derived.Test.YtdbbmclobmigdaaGreatGSA
import Derived.Deep.MidRow
/- A sample, by the model: over what is seen of its two replies. -/
namespace Go.Proofs.YtdbbmclobmigdaaGreat
open Go.RowKit
namespace U
theorem cells29 {w : World} {g : Nat} {v0 v1 v2 v3 v4 v5 v6 v7 v8 v9 v10 v11 v12 v13 v14 v15 v16 v17 v18 v19 v20 v21 v22 v23 v24 v25 v26 v27 v28 : Value} {ty : TypeId} (h : w.heap[g]? = some (.cells #[v0, v1, v2, v3, v4, v5, v6, v7, v8, v9, v10, v11, v12, v13, v14, v15, v16, v17, v18, v19, v20, v21, v22, v23, v24, v25, v26, v27, v28] ty)) : w.cell? ⟨g, 0, none⟩ = some v0 ∧ w.cell? ⟨g, 1, none⟩ = some v1 ∧ w.cell? ⟨g, 2, none⟩ = some v2 ∧ w.cell? ⟨g, 3, none⟩ = some v3 ∧ w.cell? ⟨g, 4, none⟩ = some v4 ∧ w.cell? ⟨g, 5, none⟩ = some v5 ∧ w.cell? ⟨g, 6, none⟩ = some v6 ∧ w.cell? ⟨g, 7, none⟩ = some v7 ∧ w.cell? ⟨g, 8, none⟩ = some v8 ∧ w.cell? ⟨g, 9, none⟩ = some v9 ∧ w.cell? ⟨g, 10, none⟩ = some v10 ∧ w.cell? ⟨g, 11, none⟩ = some v11 ∧ w.cell? ⟨g, 12, none⟩ = some v12 ∧ w.cell? ⟨g, 13, none⟩ = some v13 ∧ w.cell? ⟨g, 14, none⟩ = some v14 ∧ w.cell? ⟨g, 15, none⟩ = some v15 ∧ w.cell? ⟨g, 16, none⟩ = some v16 ∧ w.cell? ⟨g, 17, none⟩ = some v17 ∧ w.cell? ⟨g, 18, none⟩ = some v18 ∧ w.cell? ⟨g, 19, none⟩ = some v19 ∧ w.cell? ⟨g, 20, none⟩ = some v20 ∧ w.cell? ⟨g, 21, none⟩ = some v21 ∧ w.cell? ⟨g, 22, none⟩ = some v22 ∧ w.cell? ⟨g, 23, none⟩ = some v23 ∧ w.cell? ⟨g, 24, none⟩ = some v24 ∧ w.cell? ⟨g, 25, none⟩ = some v25 ∧ w.cell? ⟨g, 26, none⟩ = some v26 ∧ w.cell? ⟨g, 27, none⟩ = some v27 ∧ w.cell? ⟨g, 28, none⟩ = some v28 := by
  refine ⟨?_, ?_, ?_, ?_, ?_, ?_, ?_, ?_, ?_, ?_, ?_, ?_, ?_, ?_, ?_, ?_, ?_, ?_, ?_, ?_, ?_, ?_, ?_, ?_, ?_, ?_, ?_, ?_, ?_⟩ <;> (unfold World.cell?; rw [h]; rfl)
/-- Two blocks, one behind the other. -/
structure Bx2 (w : World) (g : Nat) (o0 o1 : Obj) : Prop where
  b0 : w.heap[g]? = some o0
  b1 : w.heap[g + 1]? = some o1
theorem Bx2.below {w w' : World} {g : Nat} {o0 o1 : Obj} (h : Bx2 w g o0 o1) (hb : Below w.heap.size w w') : Bx2 w' g o0 o1 :=
  ⟨(hb.block _ (Array.getElem?_eq_some_iff.1 h.b0).1).trans h.b0, (hb.block _ (Array.getElem?_eq_some_iff.1 h.b1).1).trans h.b1⟩
theorem Bx2.new (w : World) (o0 o1 : Obj) : Bx2 ((w.alloc o0).alloc o1) w.heap.size o0 o1 := by
  have k1 := heap_alloc_new (w.alloc o0) o1
  rw [World.size_alloc] at k1
  exact ⟨((one_new (w := w.alloc o0) o1).block _ (by simp)).trans (heap_alloc_new w o0), k1⟩
/-- Is a sample right? -/
def smR (q1 q2 : Int) (so1 so2 b : Bool) : Bool := (q1 == 0) && ((q2 == 0) && (so1 && (!so2 && b)))
set_option maxRecDepth 100000 in
set_option maxHeartbeats 4000000 in
theorem specSm_1 (he hp ho hn hv : Int) (s : ByteArray) (e1 : Int) (hl1 : Bool) (l1 : ByteArray) (v1 o1 p1 : Int) (so1 st1 : Bool) (sv1 : Int) (a1 : Option Addr) (pn1 c1 : Nat) (sx1 : Bool) (sk1 sy1 : Int) (b1 : Option Addr) (fn1 d1 : Nat) (e2 : Int) (hl2 : Bool) (l2 : ByteArray) (v2 o2 p2 : Int) (so2 st2 : Bool) (sv2 : Int) (a2 : Option Addr) (pn2 c2 : Nat) (sx2 : Bool) (sk2 sy2 : Int) (b2 : Option Addr) (fn2 d2 : Nat) (q1 k1 : Int) (f1 : Bool) (t1 : ByteArray) (x1 y1 z1 : Int) (q2 k2 : Int) (f2 : Bool) (t2 : ByteArray) (x2 y2 z2 : Int) (w : World) (HS1 : ∀ w', Below w.heap.size w w' → Calls Tryz.prog 8 #[.agg #[.int .i64 he, .int .i64 hp, .int .i64 ho, .int .i64 hn, .int .i64 hv], .string s, .agg #[.int .i64 e1, .bool hl1, .string l1, .int .i64 v1, .int .i64 o1, .int .i64 p1, .bool so1, .bool st1, .int .i64 sv1, .slice a1 pn1 c1, .bool sx1, .int .i64 sk1, .int .i64 sy1, .slice b1 fn1 d1]] w' fun x w'' => x = .returned (.agg #[.int .i64 q1, .int .i64 k1, .bool f1, .string t1, .int .i64 x1, .int .i64 y1, .int .i64 z1]) ∧ Below w'.heap.size w' w'') (HS2 : ∀ w', Below w.heap.size w w' → Calls Tryz.prog 8 #[.agg #[.int .i64 he, .int .i64 hp, .int .i64 ho, .int .i64 hn, .int .i64 hv], .string s, .agg #[.int .i64 e2, .bool hl2, .string l2, .int .i64 v2, .int .i64 o2, .int .i64 p2, .bool so2, .bool st2, .int .i64 sv2, .slice a2 pn2 c2, .bool sx2, .int .i64 sk2, .int .i64 sy2, .slice b2 fn2 d2]] w' fun x w'' => x = .returned (.agg #[.int .i64 q2, .int .i64 k2, .bool f2, .string t2, .int .i64 x2, .int .i64 y2, .int .i64 z2]) ∧ Below w'.heap.size w' w'') (hq : (q1 == 0) = false) :
    Calls Tryz.prog 18 #[.agg #[.int .i64 he, .int .i64 hp, .int .i64 ho, .int .i64 hn, .int .i64 hv], .agg #[.string s, .int .i64 e1, .bool hl1, .string l1, .int .i64 v1, .int .i64 o1, .int .i64 p1, .bool so1, .bool st1, .int .i64 sv1, .slice a1 pn1 c1, .bool sx1, .int .i64 sk1, .int .i64 sy1, .slice b1 fn1 d1, .int .i64 e2, .bool hl2, .string l2, .int .i64 v2, .int .i64 o2, .int .i64 p2, .bool so2, .bool st2, .int .i64 sv2, .slice a2 pn2 c2, .bool sx2, .int .i64 sk2, .int .i64 sy2, .slice b2 fn2 d2]] w fun x w' => x = .returned (.bool false) ∧ Below w.heap.size w w' := by
  obtain ⟨W, hW⟩ : ∃ W, W = (w.alloc (.cells #[.int .i64 he, .int .i64 hp, .int .i64 ho, .int .i64 hn, .int .i64 hv] 43)).alloc (.cells #[.string s, .int .i64 e1, .bool hl1, .string l1, .int .i64 v1, .int .i64 o1, .int .i64 p1, .bool so1, .bool st1, .int .i64 sv1, .slice a1 pn1 c1, .bool sx1, .int .i64 sk1, .int .i64 sy1, .slice b1 fn1 d1, .int .i64 e2, .bool hl2, .string l2, .int .i64 v2, .int .i64 o2, .int .i64 p2, .bool so2, .bool st2, .int .i64 sv2, .slice a2 pn2 c2, .bool sx2, .int .i64 sk2, .int .i64 sy2, .slice b2 fn2 d2] 67) := ⟨_, rfl⟩
  have HW : Hid ((w.alloc (.cells #[.int .i64 he, .int .i64 hp, .int .i64 ho, .int .i64 hn, .int .i64 hv] 43)).alloc (.cells #[.string s, .int .i64 e1, .bool hl1, .string l1, .int .i64 v1, .int .i64 o1, .int .i64 p1, .bool so1, .bool st1, .int .i64 sv1, .slice a1 pn1 c1, .bool sx1, .int .i64 sk1, .int .i64 sy1, .slice b1 fn1 d1, .int .i64 e2, .bool hl2, .string l2, .int .i64 v2, .int .i64 o2, .int .i64 p2, .bool so2, .bool st2, .int .i64 sv2, .slice a2 pn2 c2, .bool sx2, .int .i64 sk2, .int .i64 sy2, .slice b2 fn2 d2] 67) = W) := hW.symm
  have hB : Below w.heap.size w W := by rw [hW]; exact two_new _ _
  have B0 : Bx2 W w.heap.size (.cells #[.int .i64 he, .int .i64 hp, .int .i64 ho, .int .i64 hn, .int .i64 hv] 43) (.cells #[.string s, .int .i64 e1, .bool hl1, .string l1, .int .i64 v1, .int .i64 o1, .int .i64 p1, .bool so1, .bool st1, .int .i64 sv1, .slice a1 pn1 c1, .bool sx1, .int .i64 sk1, .int .i64 sy1, .slice b1 fn1 d1, .int .i64 e2, .bool hl2, .string l2, .int .i64 v2, .int .i64 o2, .int .i64 p2, .bool so2, .bool st2, .int .i64 sv2, .slice a2 pn2 c2, .bool sx2, .int .i64 sk2, .int .i64 sy2, .slice b2 fn2 d2] 67) := by rw [hW]; exact Bx2.new w _ _
  have HK : Hid (∀ w', Below W.heap.size W w' → Bx2 w' w.heap.size (.cells #[.int .i64 he, .int .i64 hp, .int .i64 ho, .int .i64 hn, .int .i64 hv] 43) (.cells #[.string s, .int .i64 e1, .bool hl1, .string l1, .int .i64 v1, .int .i64 o1, .int .i64 p1, .bool so1, .bool st1, .int .i64 sv1, .slice a1 pn1 c1, .bool sx1, .int .i64 sk1, .int .i64 sy1, .slice b1 fn1 d1, .int .i64 e2, .bool hl2, .string l2, .int .i64 v2, .int .i64 o2, .int .i64 p2, .bool so2, .bool st2, .int .i64 sv2, .slice a2 pn2 c2, .bool sx2, .int .i64 sk2, .int .i64 sy2, .slice b2 fn2 d2] 67)) := fun w' hb => B0.below hb
  obtain ⟨h0, h1, h2, h3, h4⟩ := five_cells B0.b0
  obtain ⟨m0, m1, m2, m3, m4, m5, m6, m7, m8, m9, m10, m11, m12, m13, m14, m15, m16, m17, m18, m19, m20, m21, m22, m23, m24, m25, m26, m27, m28⟩ := cells29 B0.b1
  clear hW B0
  go_enter Tryz.func18, Tryz.ntmps18
  go_upto_region 1 with fail
  rw [HW.out]
  go_wp2_with fail
  refine (HS1 _ hB).mono ?_
  rintro x w1 ⟨rfl, hb1⟩
  clear HS1 h0 h1 h2 h3 h4 m0 m1 m2 m3 m4 m5 m6 m7 m8 m9 m10 m11 m12 m13 m14 m15 m16 m17 m18 m19 m20 m21 m22 m23 m24 m25 m26 m27 m28
  obtain ⟨W1, hW1⟩ : ∃ W1, W1 = w1.alloc (.cells #[.int .i64 q1, .int .i64 k1, .bool f1, .string t1, .int .i64 x1, .int .i64 y1, .int .i64 z1] 41) := ⟨_, rfl⟩
  have HW1 : Hid (w1.alloc (.cells #[.int .i64 q1, .int .i64 k1, .bool f1, .string t1, .int .i64 x1, .int .i64 y1, .int .i64 z1] 41) = W1) := hW1.symm
  have hC1 : Below W.heap.size W W1 := by rw [hW1]; exact hb1.alloc hb1.size _
  have X1 : W1.heap[w1.heap.size]? = some (.cells #[.int .i64 q1, .int .i64 k1, .bool f1, .string t1, .int .i64 x1, .int .i64 y1, .int .i64 z1] 41) := by rw [hW1]; exact heap_alloc_new _ _
  have hg1 : w.heap.size + 1 < w1.heap.size := (Array.getElem?_eq_some_iff.1 (HK.out _ hb1).b1).1
  clear hW1 hb1
  go_upto_region 2 with fail
  rw [HW1.out]
  obtain ⟨h0, h1, h2, h3, h4⟩ := five_cells (HK.out _ hC1).b0
  obtain ⟨m0, m1, m2, m3, m4, m5, m6, m7, m8, m9, m10, m11, m12, m13, m14, m15, m16, m17, m18, m19, m20, m21, m22, m23, m24, m25, m26, m27, m28⟩ := cells29 (HK.out _ hC1).b1
  go_wp2_with fail
  refine (HS2 _ (below_after_of hB hC1)).mono ?_
  rintro x w2 ⟨rfl, hb2⟩
  clear HS2 h0 h1 h2 h3 h4 m0 m1 m2 m3 m4 m5 m6 m7 m8 m9 m10 m11 m12 m13 m14 m15 m16 m17 m18 m19 m20 m21 m22 m23 m24 m25 m26 m27 m28
  obtain ⟨W2, hW2⟩ : ∃ W2, W2 = w2.alloc (.cells #[.int .i64 q2, .int .i64 k2, .bool f2, .string t2, .int .i64 x2, .int .i64 y2, .int .i64 z2] 41) := ⟨_, rfl⟩
  have HW2 : Hid (w2.alloc (.cells #[.int .i64 q2, .int .i64 k2, .bool f2, .string t2, .int .i64 x2, .int .i64 y2, .int .i64 z2] 41) = W2) := hW2.symm
  have hb2' : Below W1.heap.size W1 W2 := by rw [hW2]; exact hb2.alloc hb2.size _
  have hC2 := below_after_of hC1 hb2'
  have X2 : W2.heap[w2.heap.size]? = some (.cells #[.int .i64 q2, .int .i64 k2, .bool f2, .string t2, .int .i64 x2, .int .i64 y2, .int .i64 z2] 41) := by rw [hW2]; exact heap_alloc_new _ _
  have X1 := (hb2'.block _ (Array.getElem?_eq_some_iff.1 X1).1).trans X1
  clear hW2 hb2 hb2'
  go_upto_region 3 with fail
  rw [HW2.out]
  obtain ⟨u0, u1, u2, u3, u4, u5, u6, -⟩ := seven_cells X1
  obtain ⟨s0, s1, s2, s3, s4, s5, s6, -⟩ := seven_cells X2
  obtain ⟨-, -, -, -, -, -, -, m7, -, -, -, -, -, -, -, -, -, -, -, -, -, m21, -, -, -, -, -, -, -⟩ := cells29 (HK.out _ hC2).b1
  have hBB := below_after_of hB hC2
  clear HK hC1 hC2 X1 X2 hB HW HW1 HW2
  go_wp2
  go_ret
  exact ⟨rfl, hBB⟩
set_option maxRecDepth 100000 in
set_option maxHeartbeats 4000000 in
theorem specSm_2 (he hp ho hn hv : Int) (s : ByteArray) (e1 : Int) (hl1 : Bool) (l1 : ByteArray) (v1 o1 p1 : Int) (so1 st1 : Bool) (sv1 : Int) (a1 : Option Addr) (pn1 c1 : Nat) (sx1 : Bool) (sk1 sy1 : Int) (b1 : Option Addr) (fn1 d1 : Nat) (e2 : Int) (hl2 : Bool) (l2 : ByteArray) (v2 o2 p2 : Int) (so2 st2 : Bool) (sv2 : Int) (a2 : Option Addr) (pn2 c2 : Nat) (sx2 : Bool) (sk2 sy2 : Int) (b2 : Option Addr) (fn2 d2 : Nat) (q1 k1 : Int) (f1 : Bool) (t1 : ByteArray) (x1 y1 z1 : Int) (q2 k2 : Int) (f2 : Bool) (t2 : ByteArray) (x2 y2 z2 : Int) (w : World) (HS1 : ∀ w', Below w.heap.size w w' → Calls Tryz.prog 8 #[.agg #[.int .i64 he, .int .i64 hp, .int .i64 ho, .int .i64 hn, .int .i64 hv], .string s, .agg #[.int .i64 e1, .bool hl1, .string l1, .int .i64 v1, .int .i64 o1, .int .i64 p1, .bool so1, .bool st1, .int .i64 sv1, .slice a1 pn1 c1, .bool sx1, .int .i64 sk1, .int .i64 sy1, .slice b1 fn1 d1]] w' fun x w'' => x = .returned (.agg #[.int .i64 q1, .int .i64 k1, .bool f1, .string t1, .int .i64 x1, .int .i64 y1, .int .i64 z1]) ∧ Below w'.heap.size w' w'') (HS2 : ∀ w', Below w.heap.size w w' → Calls Tryz.prog 8 #[.agg #[.int .i64 he, .int .i64 hp, .int .i64 ho, .int .i64 hn, .int .i64 hv], .string s, .agg #[.int .i64 e2, .bool hl2, .string l2, .int .i64 v2, .int .i64 o2, .int .i64 p2, .bool so2, .bool st2, .int .i64 sv2, .slice a2 pn2 c2, .bool sx2, .int .i64 sk2, .int .i64 sy2, .slice b2 fn2 d2]] w' fun x w'' => x = .returned (.agg #[.int .i64 q2, .int .i64 k2, .bool f2, .string t2, .int .i64 x2, .int .i64 y2, .int .i64 z2]) ∧ Below w'.heap.size w' w'') (hq : (q1 == 0) = true) (hq2 : (q2 == 0) = false) :
    Calls Tryz.prog 18 #[.agg #[.int .i64 he, .int .i64 hp, .int .i64 ho, .int .i64 hn, .int .i64 hv], .agg #[.string s, .int .i64 e1, .bool hl1, .string l1, .int .i64 v1, .int .i64 o1, .int .i64 p1, .bool so1, .bool st1, .int .i64 sv1, .slice a1 pn1 c1, .bool sx1, .int .i64 sk1, .int .i64 sy1, .slice b1 fn1 d1, .int .i64 e2, .bool hl2, .string l2, .int .i64 v2, .int .i64 o2, .int .i64 p2, .bool so2, .bool st2, .int .i64 sv2, .slice a2 pn2 c2, .bool sx2, .int .i64 sk2, .int .i64 sy2, .slice b2 fn2 d2]] w fun x w' => x = .returned (.bool false) ∧ Below w.heap.size w w' := by
  obtain ⟨W, hW⟩ : ∃ W, W = (w.alloc (.cells #[.int .i64 he, .int .i64 hp, .int .i64 ho, .int .i64 hn, .int .i64 hv] 43)).alloc (.cells #[.string s, .int .i64 e1, .bool hl1, .string l1, .int .i64 v1, .int .i64 o1, .int .i64 p1, .bool so1, .bool st1, .int .i64 sv1, .slice a1 pn1 c1, .bool sx1, .int .i64 sk1, .int .i64 sy1, .slice b1 fn1 d1, .int .i64 e2, .bool hl2, .string l2, .int .i64 v2, .int .i64 o2, .int .i64 p2, .bool so2, .bool st2, .int .i64 sv2, .slice a2 pn2 c2, .bool sx2, .int .i64 sk2, .int .i64 sy2, .slice b2 fn2 d2] 67) := ⟨_, rfl⟩
  have HW : Hid ((w.alloc (.cells #[.int .i64 he, .int .i64 hp, .int .i64 ho, .int .i64 hn, .int .i64 hv] 43)).alloc (.cells #[.string s, .int .i64 e1, .bool hl1, .string l1, .int .i64 v1, .int .i64 o1, .int .i64 p1, .bool so1, .bool st1, .int .i64 sv1, .slice a1 pn1 c1, .bool sx1, .int .i64 sk1, .int .i64 sy1, .slice b1 fn1 d1, .int .i64 e2, .bool hl2, .string l2, .int .i64 v2, .int .i64 o2, .int .i64 p2, .bool so2, .bool st2, .int .i64 sv2, .slice a2 pn2 c2, .bool sx2, .int .i64 sk2, .int .i64 sy2, .slice b2 fn2 d2] 67) = W) := hW.symm
  have hB : Below w.heap.size w W := by rw [hW]; exact two_new _ _
  have B0 : Bx2 W w.heap.size (.cells #[.int .i64 he, .int .i64 hp, .int .i64 ho, .int .i64 hn, .int .i64 hv] 43) (.cells #[.string s, .int .i64 e1, .bool hl1, .string l1, .int .i64 v1, .int .i64 o1, .int .i64 p1, .bool so1, .bool st1, .int .i64 sv1, .slice a1 pn1 c1, .bool sx1, .int .i64 sk1, .int .i64 sy1, .slice b1 fn1 d1, .int .i64 e2, .bool hl2, .string l2, .int .i64 v2, .int .i64 o2, .int .i64 p2, .bool so2, .bool st2, .int .i64 sv2, .slice a2 pn2 c2, .bool sx2, .int .i64 sk2, .int .i64 sy2, .slice b2 fn2 d2] 67) := by rw [hW]; exact Bx2.new w _ _
  have HK : Hid (∀ w', Below W.heap.size W w' → Bx2 w' w.heap.size (.cells #[.int .i64 he, .int .i64 hp, .int .i64 ho, .int .i64 hn, .int .i64 hv] 43) (.cells #[.string s, .int .i64 e1, .bool hl1, .string l1, .int .i64 v1, .int .i64 o1, .int .i64 p1, .bool so1, .bool st1, .int .i64 sv1, .slice a1 pn1 c1, .bool sx1, .int .i64 sk1, .int .i64 sy1, .slice b1 fn1 d1, .int .i64 e2, .bool hl2, .string l2, .int .i64 v2, .int .i64 o2, .int .i64 p2, .bool so2, .bool st2, .int .i64 sv2, .slice a2 pn2 c2, .bool sx2, .int .i64 sk2, .int .i64 sy2, .slice b2 fn2 d2] 67)) := fun w' hb => B0.below hb
  obtain ⟨h0, h1, h2, h3, h4⟩ := five_cells B0.b0
  obtain ⟨m0, m1, m2, m3, m4, m5, m6, m7, m8, m9, m10, m11, m12, m13, m14, m15, m16, m17, m18, m19, m20, m21, m22, m23, m24, m25, m26, m27, m28⟩ := cells29 B0.b1
  clear hW B0
  go_enter Tryz.func18, Tryz.ntmps18
  go_upto_region 1 with fail
  rw [HW.out]
  go_wp2_with fail
  refine (HS1 _ hB).mono ?_
  rintro x w1 ⟨rfl, hb1⟩
  clear HS1 h0 h1 h2 h3 h4 m0 m1 m2 m3 m4 m5 m6 m7 m8 m9 m10 m11 m12 m13 m14 m15 m16 m17 m18 m19 m20 m21 m22 m23 m24 m25 m26 m27 m28
  obtain ⟨W1, hW1⟩ : ∃ W1, W1 = w1.alloc (.cells #[.int .i64 q1, .int .i64 k1, .bool f1, .string t1, .int .i64 x1, .int .i64 y1, .int .i64 z1] 41) := ⟨_, rfl⟩
  have HW1 : Hid (w1.alloc (.cells #[.int .i64 q1, .int .i64 k1, .bool f1, .string t1, .int .i64 x1, .int .i64 y1, .int .i64 z1] 41) = W1) := hW1.symm
  have hC1 : Below W.heap.size W W1 := by rw [hW1]; exact hb1.alloc hb1.size _
  have X1 : W1.heap[w1.heap.size]? = some (.cells #[.int .i64 q1, .int .i64 k1, .bool f1, .string t1, .int .i64 x1, .int .i64 y1, .int .i64 z1] 41) := by rw [hW1]; exact heap_alloc_new _ _
  have hg1 : w.heap.size + 1 < w1.heap.size := (Array.getElem?_eq_some_iff.1 (HK.out _ hb1).b1).1
  clear hW1 hb1
  go_upto_region 2 with fail
  rw [HW1.out]
  obtain ⟨h0, h1, h2, h3, h4⟩ := five_cells (HK.out _ hC1).b0
  obtain ⟨m0, m1, m2, m3, m4, m5, m6, m7, m8, m9, m10, m11, m12, m13, m14, m15, m16, m17, m18, m19, m20, m21, m22, m23, m24, m25, m26, m27, m28⟩ := cells29 (HK.out _ hC1).b1
  go_wp2_with fail
  refine (HS2 _ (below_after_of hB hC1)).mono ?_
  rintro x w2 ⟨rfl, hb2⟩
  clear HS2 h0 h1 h2 h3 h4 m0 m1 m2 m3 m4 m5 m6 m7 m8 m9 m10 m11 m12 m13 m14 m15 m16 m17 m18 m19 m20 m21 m22 m23 m24 m25 m26 m27 m28
  obtain ⟨W2, hW2⟩ : ∃ W2, W2 = w2.alloc (.cells #[.int .i64 q2, .int .i64 k2, .bool f2, .string t2, .int .i64 x2, .int .i64 y2, .int .i64 z2] 41) := ⟨_, rfl⟩
  have HW2 : Hid (w2.alloc (.cells #[.int .i64 q2, .int .i64 k2, .bool f2, .string t2, .int .i64 x2, .int .i64 y2, .int .i64 z2] 41) = W2) := hW2.symm
  have hb2' : Below W1.heap.size W1 W2 := by rw [hW2]; exact hb2.alloc hb2.size _
  have hC2 := below_after_of hC1 hb2'
  have X2 : W2.heap[w2.heap.size]? = some (.cells #[.int .i64 q2, .int .i64 k2, .bool f2, .string t2, .int .i64 x2, .int .i64 y2, .int .i64 z2] 41) := by rw [hW2]; exact heap_alloc_new _ _
  have X1 := (hb2'.block _ (Array.getElem?_eq_some_iff.1 X1).1).trans X1
  clear hW2 hb2 hb2'
  go_upto_region 3 with fail
  rw [HW2.out]
  obtain ⟨u0, u1, u2, u3, u4, u5, u6, -⟩ := seven_cells X1
  obtain ⟨s0, s1, s2, s3, s4, s5, s6, -⟩ := seven_cells X2
  obtain ⟨-, -, -, -, -, -, -, m7, -, -, -, -, -, -, -, -, -, -, -, -, -, m21, -, -, -, -, -, -, -⟩ := cells29 (HK.out _ hC2).b1
  have hBB := below_after_of hB hC2
  clear HK hC1 hC2 X1 X2 hB HW HW1 HW2
  go_wp2
  go_ret
  exact ⟨rfl, hBB⟩
set_option maxRecDepth 100000 in
set_option maxHeartbeats 4000000 in
theorem specSm_3 (he hp ho hn hv : Int) (s : ByteArray) (e1 : Int) (hl1 : Bool) (l1 : ByteArray) (v1 o1 p1 : Int) (st1 : Bool) (sv1 : Int) (a1 : Option Addr) (pn1 c1 : Nat) (sx1 : Bool) (sk1 sy1 : Int) (b1 : Option Addr) (fn1 d1 : Nat) (e2 : Int) (hl2 : Bool) (l2 : ByteArray) (v2 o2 p2 : Int) (so2 st2 : Bool) (sv2 : Int) (a2 : Option Addr) (pn2 c2 : Nat) (sx2 : Bool) (sk2 sy2 : Int) (b2 : Option Addr) (fn2 d2 : Nat) (q1 k1 : Int) (f1 : Bool) (t1 : ByteArray) (x1 y1 z1 : Int) (q2 k2 : Int) (f2 : Bool) (t2 : ByteArray) (x2 y2 z2 : Int) (w : World) (HS1 : ∀ w', Below w.heap.size w w' → Calls Tryz.prog 8 #[.agg #[.int .i64 he, .int .i64 hp, .int .i64 ho, .int .i64 hn, .int .i64 hv], .string s, .agg #[.int .i64 e1, .bool hl1, .string l1, .int .i64 v1, .int .i64 o1, .int .i64 p1, .bool false, .bool st1, .int .i64 sv1, .slice a1 pn1 c1, .bool sx1, .int .i64 sk1, .int .i64 sy1, .slice b1 fn1 d1]] w' fun x w'' => x = .returned (.agg #[.int .i64 q1, .int .i64 k1, .bool f1, .string t1, .int .i64 x1, .int .i64 y1, .int .i64 z1]) ∧ Below w'.heap.size w' w'') (HS2 : ∀ w', Below w.heap.size w w' → Calls Tryz.prog 8 #[.agg #[.int .i64 he, .int .i64 hp, .int .i64 ho, .int .i64 hn, .int .i64 hv], .string s, .agg #[.int .i64 e2, .bool hl2, .string l2, .int .i64 v2, .int .i64 o2, .int .i64 p2, .bool so2, .bool st2, .int .i64 sv2, .slice a2 pn2 c2, .bool sx2, .int .i64 sk2, .int .i64 sy2, .slice b2 fn2 d2]] w' fun x w'' => x = .returned (.agg #[.int .i64 q2, .int .i64 k2, .bool f2, .string t2, .int .i64 x2, .int .i64 y2, .int .i64 z2]) ∧ Below w'.heap.size w' w'') (hq : (q1 == 0) = true) (hq2 : (q2 == 0) = true) :
    Calls Tryz.prog 18 #[.agg #[.int .i64 he, .int .i64 hp, .int .i64 ho, .int .i64 hn, .int .i64 hv], .agg #[.string s, .int .i64 e1, .bool hl1, .string l1, .int .i64 v1, .int .i64 o1, .int .i64 p1, .bool false, .bool st1, .int .i64 sv1, .slice a1 pn1 c1, .bool sx1, .int .i64 sk1, .int .i64 sy1, .slice b1 fn1 d1, .int .i64 e2, .bool hl2, .string l2, .int .i64 v2, .int .i64 o2, .int .i64 p2, .bool so2, .bool st2, .int .i64 sv2, .slice a2 pn2 c2, .bool sx2, .int .i64 sk2, .int .i64 sy2, .slice b2 fn2 d2]] w fun x w' => x = .returned (.bool false) ∧ Below w.heap.size w w' := by
  obtain ⟨W, hW⟩ : ∃ W, W = (w.alloc (.cells #[.int .i64 he, .int .i64 hp, .int .i64 ho, .int .i64 hn, .int .i64 hv] 43)).alloc (.cells #[.string s, .int .i64 e1, .bool hl1, .string l1, .int .i64 v1, .int .i64 o1, .int .i64 p1, .bool false, .bool st1, .int .i64 sv1, .slice a1 pn1 c1, .bool sx1, .int .i64 sk1, .int .i64 sy1, .slice b1 fn1 d1, .int .i64 e2, .bool hl2, .string l2, .int .i64 v2, .int .i64 o2, .int .i64 p2, .bool so2, .bool st2, .int .i64 sv2, .slice a2 pn2 c2, .bool sx2, .int .i64 sk2, .int .i64 sy2, .slice b2 fn2 d2] 67) := ⟨_, rfl⟩
  have HW : Hid ((w.alloc (.cells #[.int .i64 he, .int .i64 hp, .int .i64 ho, .int .i64 hn, .int .i64 hv] 43)).alloc (.cells #[.string s, .int .i64 e1, .bool hl1, .string l1, .int .i64 v1, .int .i64 o1, .int .i64 p1, .bool false, .bool st1, .int .i64 sv1, .slice a1 pn1 c1, .bool sx1, .int .i64 sk1, .int .i64 sy1, .slice b1 fn1 d1, .int .i64 e2, .bool hl2, .string l2, .int .i64 v2, .int .i64 o2, .int .i64 p2, .bool so2, .bool st2, .int .i64 sv2, .slice a2 pn2 c2, .bool sx2, .int .i64 sk2, .int .i64 sy2, .slice b2 fn2 d2] 67) = W) := hW.symm
  have hB : Below w.heap.size w W := by rw [hW]; exact two_new _ _
  have B0 : Bx2 W w.heap.size (.cells #[.int .i64 he, .int .i64 hp, .int .i64 ho, .int .i64 hn, .int .i64 hv] 43) (.cells #[.string s, .int .i64 e1, .bool hl1, .string l1, .int .i64 v1, .int .i64 o1, .int .i64 p1, .bool false, .bool st1, .int .i64 sv1, .slice a1 pn1 c1, .bool sx1, .int .i64 sk1, .int .i64 sy1, .slice b1 fn1 d1, .int .i64 e2, .bool hl2, .string l2, .int .i64 v2, .int .i64 o2, .int .i64 p2, .bool so2, .bool st2, .int .i64 sv2, .slice a2 pn2 c2, .bool sx2, .int .i64 sk2, .int .i64 sy2, .slice b2 fn2 d2] 67) := by rw [hW]; exact Bx2.new w _ _
  have HK : Hid (∀ w', Below W.heap.size W w' → Bx2 w' w.heap.size (.cells #[.int .i64 he, .int .i64 hp, .int .i64 ho, .int .i64 hn, .int .i64 hv] 43) (.cells #[.string s, .int .i64 e1, .bool hl1, .string l1, .int .i64 v1, .int .i64 o1, .int .i64 p1, .bool false, .bool st1, .int .i64 sv1, .slice a1 pn1 c1, .bool sx1, .int .i64 sk1, .int .i64 sy1, .slice b1 fn1 d1, .int .i64 e2, .bool hl2, .string l2, .int .i64 v2, .int .i64 o2, .int .i64 p2, .bool so2, .bool st2, .int .i64 sv2, .slice a2 pn2 c2, .bool sx2, .int .i64 sk2, .int .i64 sy2, .slice b2 fn2 d2] 67)) := fun w' hb => B0.below hb
  obtain ⟨h0, h1, h2, h3, h4⟩ := five_cells B0.b0
  obtain ⟨m0, m1, m2, m3, m4, m5, m6, m7, m8, m9, m10, m11, m12, m13, m14, m15, m16, m17, m18, m19, m20, m21, m22, m23, m24, m25, m26, m27, m28⟩ := cells29 B0.b1
  clear hW B0
  go_enter Tryz.func18, Tryz.ntmps18
  go_upto_region 1 with fail
  rw [HW.out]
  go_wp2_with fail
  refine (HS1 _ hB).mono ?_
  rintro x w1 ⟨rfl, hb1⟩
  clear HS1 h0 h1 h2 h3 h4 m0 m1 m2 m3 m4 m5 m6 m7 m8 m9 m10 m11 m12 m13 m14 m15 m16 m17 m18 m19 m20 m21 m22 m23 m24 m25 m26 m27 m28
  obtain ⟨W1, hW1⟩ : ∃ W1, W1 = w1.alloc (.cells #[.int .i64 q1, .int .i64 k1, .bool f1, .string t1, .int .i64 x1, .int .i64 y1, .int .i64 z1] 41) := ⟨_, rfl⟩
  have HW1 : Hid (w1.alloc (.cells #[.int .i64 q1, .int .i64 k1, .bool f1, .string t1, .int .i64 x1, .int .i64 y1, .int .i64 z1] 41) = W1) := hW1.symm
  have hC1 : Below W.heap.size W W1 := by rw [hW1]; exact hb1.alloc hb1.size _
  have X1 : W1.heap[w1.heap.size]? = some (.cells #[.int .i64 q1, .int .i64 k1, .bool f1, .string t1, .int .i64 x1, .int .i64 y1, .int .i64 z1] 41) := by rw [hW1]; exact heap_alloc_new _ _
  have hg1 : w.heap.size + 1 < w1.heap.size := (Array.getElem?_eq_some_iff.1 (HK.out _ hb1).b1).1
  clear hW1 hb1
  go_upto_region 2 with fail
  rw [HW1.out]
  obtain ⟨h0, h1, h2, h3, h4⟩ := five_cells (HK.out _ hC1).b0
  obtain ⟨m0, m1, m2, m3, m4, m5, m6, m7, m8, m9, m10, m11, m12, m13, m14, m15, m16, m17, m18, m19, m20, m21, m22, m23, m24, m25, m26, m27, m28⟩ := cells29 (HK.out _ hC1).b1
  go_wp2_with fail
  refine (HS2 _ (below_after_of hB hC1)).mono ?_
  rintro x w2 ⟨rfl, hb2⟩
  clear HS2 h0 h1 h2 h3 h4 m0 m1 m2 m3 m4 m5 m6 m7 m8 m9 m10 m11 m12 m13 m14 m15 m16 m17 m18 m19 m20 m21 m22 m23 m24 m25 m26 m27 m28
  obtain ⟨W2, hW2⟩ : ∃ W2, W2 = w2.alloc (.cells #[.int .i64 q2, .int .i64 k2, .bool f2, .string t2, .int .i64 x2, .int .i64 y2, .int .i64 z2] 41) := ⟨_, rfl⟩
  have HW2 : Hid (w2.alloc (.cells #[.int .i64 q2, .int .i64 k2, .bool f2, .string t2, .int .i64 x2, .int .i64 y2, .int .i64 z2] 41) = W2) := hW2.symm
  have hb2' : Below W1.heap.size W1 W2 := by rw [hW2]; exact hb2.alloc hb2.size _
  have hC2 := below_after_of hC1 hb2'
  have X2 : W2.heap[w2.heap.size]? = some (.cells #[.int .i64 q2, .int .i64 k2, .bool f2, .string t2, .int .i64 x2, .int .i64 y2, .int .i64 z2] 41) := by rw [hW2]; exact heap_alloc_new _ _
  have X1 := (hb2'.block _ (Array.getElem?_eq_some_iff.1 X1).1).trans X1
  clear hW2 hb2 hb2'
  go_upto_region 3 with fail
  rw [HW2.out]
  obtain ⟨u0, u1, u2, u3, u4, u5, u6, -⟩ := seven_cells X1
  obtain ⟨s0, s1, s2, s3, s4, s5, s6, -⟩ := seven_cells X2
  obtain ⟨-, -, -, -, -, -, -, m7, -, -, -, -, -, -, -, -, -, -, -, -, -, m21, -, -, -, -, -, -, -⟩ := cells29 (HK.out _ hC2).b1
  have hBB := below_after_of hB hC2
  clear HK hC1 hC2 X1 X2 hB HW HW1 HW2
  go_wp2
  go_ret
  exact ⟨rfl, hBB⟩
set_option maxRecDepth 100000 in
set_option maxHeartbeats 4000000 in
theorem specSm_4 (he hp ho hn hv : Int) (s : ByteArray) (e1 : Int) (hl1 : Bool) (l1 : ByteArray) (v1 o1 p1 : Int) (st1 : Bool) (sv1 : Int) (a1 : Option Addr) (pn1 c1 : Nat) (sx1 : Bool) (sk1 sy1 : Int) (b1 : Option Addr) (fn1 d1 : Nat) (e2 : Int) (hl2 : Bool) (l2 : ByteArray) (v2 o2 p2 : Int) (st2 : Bool) (sv2 : Int) (a2 : Option Addr) (pn2 c2 : Nat) (sx2 : Bool) (sk2 sy2 : Int) (b2 : Option Addr) (fn2 d2 : Nat) (q1 k1 : Int) (f1 : Bool) (t1 : ByteArray) (x1 y1 z1 : Int) (q2 k2 : Int) (f2 : Bool) (t2 : ByteArray) (x2 y2 z2 : Int) (w : World) (HS1 : ∀ w', Below w.heap.size w w' → Calls Tryz.prog 8 #[.agg #[.int .i64 he, .int .i64 hp, .int .i64 ho, .int .i64 hn, .int .i64 hv], .string s, .agg #[.int .i64 e1, .bool hl1, .string l1, .int .i64 v1, .int .i64 o1, .int .i64 p1, .bool true, .bool st1, .int .i64 sv1, .slice a1 pn1 c1, .bool sx1, .int .i64 sk1, .int .i64 sy1, .slice b1 fn1 d1]] w' fun x w'' => x = .returned (.agg #[.int .i64 q1, .int .i64 k1, .bool f1, .string t1, .int .i64 x1, .int .i64 y1, .int .i64 z1]) ∧ Below w'.heap.size w' w'') (HS2 : ∀ w', Below w.heap.size w w' → Calls Tryz.prog 8 #[.agg #[.int .i64 he, .int .i64 hp, .int .i64 ho, .int .i64 hn, .int .i64 hv], .string s, .agg #[.int .i64 e2, .bool hl2, .string l2, .int .i64 v2, .int .i64 o2, .int .i64 p2, .bool true, .bool st2, .int .i64 sv2, .slice a2 pn2 c2, .bool sx2, .int .i64 sk2, .int .i64 sy2, .slice b2 fn2 d2]] w' fun x w'' => x = .returned (.agg #[.int .i64 q2, .int .i64 k2, .bool f2, .string t2, .int .i64 x2, .int .i64 y2, .int .i64 z2]) ∧ Below w'.heap.size w' w'') (hq : (q1 == 0) = true) (hq2 : (q2 == 0) = true) :
    Calls Tryz.prog 18 #[.agg #[.int .i64 he, .int .i64 hp, .int .i64 ho, .int .i64 hn, .int .i64 hv], .agg #[.string s, .int .i64 e1, .bool hl1, .string l1, .int .i64 v1, .int .i64 o1, .int .i64 p1, .bool true, .bool st1, .int .i64 sv1, .slice a1 pn1 c1, .bool sx1, .int .i64 sk1, .int .i64 sy1, .slice b1 fn1 d1, .int .i64 e2, .bool hl2, .string l2, .int .i64 v2, .int .i64 o2, .int .i64 p2, .bool true, .bool st2, .int .i64 sv2, .slice a2 pn2 c2, .bool sx2, .int .i64 sk2, .int .i64 sy2, .slice b2 fn2 d2]] w fun x w' => x = .returned (.bool false) ∧ Below w.heap.size w w' := by
  obtain ⟨W, hW⟩ : ∃ W, W = (w.alloc (.cells #[.int .i64 he, .int .i64 hp, .int .i64 ho, .int .i64 hn, .int .i64 hv] 43)).alloc (.cells #[.string s, .int .i64 e1, .bool hl1, .string l1, .int .i64 v1, .int .i64 o1, .int .i64 p1, .bool true, .bool st1, .int .i64 sv1, .slice a1 pn1 c1, .bool sx1, .int .i64 sk1, .int .i64 sy1, .slice b1 fn1 d1, .int .i64 e2, .bool hl2, .string l2, .int .i64 v2, .int .i64 o2, .int .i64 p2, .bool true, .bool st2, .int .i64 sv2, .slice a2 pn2 c2, .bool sx2, .int .i64 sk2, .int .i64 sy2, .slice b2 fn2 d2] 67) := ⟨_, rfl⟩
  have HW : Hid ((w.alloc (.cells #[.int .i64 he, .int .i64 hp, .int .i64 ho, .int .i64 hn, .int .i64 hv] 43)).alloc (.cells #[.string s, .int .i64 e1, .bool hl1, .string l1, .int .i64 v1, .int .i64 o1, .int .i64 p1, .bool true, .bool st1, .int .i64 sv1, .slice a1 pn1 c1, .bool sx1, .int .i64 sk1, .int .i64 sy1, .slice b1 fn1 d1, .int .i64 e2, .bool hl2, .string l2, .int .i64 v2, .int .i64 o2, .int .i64 p2, .bool true, .bool st2, .int .i64 sv2, .slice a2 pn2 c2, .bool sx2, .int .i64 sk2, .int .i64 sy2, .slice b2 fn2 d2] 67) = W) := hW.symm
  have hB : Below w.heap.size w W := by rw [hW]; exact two_new _ _
  have B0 : Bx2 W w.heap.size (.cells #[.int .i64 he, .int .i64 hp, .int .i64 ho, .int .i64 hn, .int .i64 hv] 43) (.cells #[.string s, .int .i64 e1, .bool hl1, .string l1, .int .i64 v1, .int .i64 o1, .int .i64 p1, .bool true, .bool st1, .int .i64 sv1, .slice a1 pn1 c1, .bool sx1, .int .i64 sk1, .int .i64 sy1, .slice b1 fn1 d1, .int .i64 e2, .bool hl2, .string l2, .int .i64 v2, .int .i64 o2, .int .i64 p2, .bool true, .bool st2, .int .i64 sv2, .slice a2 pn2 c2, .bool sx2, .int .i64 sk2, .int .i64 sy2, .slice b2 fn2 d2] 67) := by rw [hW]; exact Bx2.new w _ _
  have HK : Hid (∀ w', Below W.heap.size W w' → Bx2 w' w.heap.size (.cells #[.int .i64 he, .int .i64 hp, .int .i64 ho, .int .i64 hn, .int .i64 hv] 43) (.cells #[.string s, .int .i64 e1, .bool hl1, .string l1, .int .i64 v1, .int .i64 o1, .int .i64 p1, .bool true, .bool st1, .int .i64 sv1, .slice a1 pn1 c1, .bool sx1, .int .i64 sk1, .int .i64 sy1, .slice b1 fn1 d1, .int .i64 e2, .bool hl2, .string l2, .int .i64 v2, .int .i64 o2, .int .i64 p2, .bool true, .bool st2, .int .i64 sv2, .slice a2 pn2 c2, .bool sx2, .int .i64 sk2, .int .i64 sy2, .slice b2 fn2 d2] 67)) := fun w' hb => B0.below hb
  obtain ⟨h0, h1, h2, h3, h4⟩ := five_cells B0.b0
  obtain ⟨m0, m1, m2, m3, m4, m5, m6, m7, m8, m9, m10, m11, m12, m13, m14, m15, m16, m17, m18, m19, m20, m21, m22, m23, m24, m25, m26, m27, m28⟩ := cells29 B0.b1
  clear hW B0
  go_enter Tryz.func18, Tryz.ntmps18
  go_upto_region 1 with fail
  rw [HW.out]
  go_wp2_with fail
  refine (HS1 _ hB).mono ?_
  rintro x w1 ⟨rfl, hb1⟩
  clear HS1 h0 h1 h2 h3 h4 m0 m1 m2 m3 m4 m5 m6 m7 m8 m9 m10 m11 m12 m13 m14 m15 m16 m17 m18 m19 m20 m21 m22 m23 m24 m25 m26 m27 m28
  obtain ⟨W1, hW1⟩ : ∃ W1, W1 = w1.alloc (.cells #[.int .i64 q1, .int .i64 k1, .bool f1, .string t1, .int .i64 x1, .int .i64 y1, .int .i64 z1] 41) := ⟨_, rfl⟩
  have HW1 : Hid (w1.alloc (.cells #[.int .i64 q1, .int .i64 k1, .bool f1, .string t1, .int .i64 x1, .int .i64 y1, .int .i64 z1] 41) = W1) := hW1.symm
  have hC1 : Below W.heap.size W W1 := by rw [hW1]; exact hb1.alloc hb1.size _
  have X1 : W1.heap[w1.heap.size]? = some (.cells #[.int .i64 q1, .int .i64 k1, .bool f1, .string t1, .int .i64 x1, .int .i64 y1, .int .i64 z1] 41) := by rw [hW1]; exact heap_alloc_new _ _
  have hg1 : w.heap.size + 1 < w1.heap.size := (Array.getElem?_eq_some_iff.1 (HK.out _ hb1).b1).1
  clear hW1 hb1
  go_upto_region 2 with fail
  rw [HW1.out]
  obtain ⟨h0, h1, h2, h3, h4⟩ := five_cells (HK.out _ hC1).b0
  obtain ⟨m0, m1, m2, m3, m4, m5, m6, m7, m8, m9, m10, m11, m12, m13, m14, m15, m16, m17, m18, m19, m20, m21, m22, m23, m24, m25, m26, m27, m28⟩ := cells29 (HK.out _ hC1).b1
  go_wp2_with fail
  refine (HS2 _ (below_after_of hB hC1)).mono ?_
  rintro x w2 ⟨rfl, hb2⟩
  clear HS2 h0 h1 h2 h3 h4 m0 m1 m2 m3 m4 m5 m6 m7 m8 m9 m10 m11 m12 m13 m14 m15 m16 m17 m18 m19 m20 m21 m22 m23 m24 m25 m26 m27 m28
  obtain ⟨W2, hW2⟩ : ∃ W2, W2 = w2.alloc (.cells #[.int .i64 q2, .int .i64 k2, .bool f2, .string t2, .int .i64 x2, .int .i64 y2, .int .i64 z2] 41) := ⟨_, rfl⟩
  have HW2 : Hid (w2.alloc (.cells #[.int .i64 q2, .int .i64 k2, .bool f2, .string t2, .int .i64 x2, .int .i64 y2, .int .i64 z2] 41) = W2) := hW2.symm
  have hb2' : Below W1.heap.size W1 W2 := by rw [hW2]; exact hb2.alloc hb2.size _
  have hC2 := below_after_of hC1 hb2'
  have X2 : W2.heap[w2.heap.size]? = some (.cells #[.int .i64 q2, .int .i64 k2, .bool f2, .string t2, .int .i64 x2, .int .i64 y2, .int .i64 z2] 41) := by rw [hW2]; exact heap_alloc_new _ _
  have X1 := (hb2'.block _ (Array.getElem?_eq_some_iff.1 X1).1).trans X1
  clear hW2 hb2 hb2'
  go_upto_region 3 with fail
  rw [HW2.out]
  obtain ⟨u0, u1, u2, u3, u4, u5, u6, -⟩ := seven_cells X1
  obtain ⟨s0, s1, s2, s3, s4, s5, s6, -⟩ := seven_cells X2
  obtain ⟨-, -, -, -, -, -, -, m7, -, -, -, -, -, -, -, -, -, -, -, -, -, m21, -, -, -, -, -, -, -⟩ := cells29 (HK.out _ hC2).b1
  have hBB := below_after_of hB hC2
  clear HK hC1 hC2 X1 X2 hB HW HW1 HW2
  go_wp2
  go_ret
  exact ⟨rfl, hBB⟩
set_option maxRecDepth 100000 in
set_option maxHeartbeats 4000000 in
theorem specSm_5 (he hp ho hn hv : Int) (s : ByteArray) (e1 : Int) (hl1 : Bool) (l1 : ByteArray) (v1 o1 p1 : Int) (st1 : Bool) (sv1 : Int) (a1 : Option Addr) (pn1 c1 : Nat) (sx1 : Bool) (sk1 sy1 : Int) (b1 : Option Addr) (fn1 d1 : Nat) (e2 : Int) (hl2 : Bool) (l2 : ByteArray) (v2 o2 p2 : Int) (st2 : Bool) (sv2 : Int) (a2 : Option Addr) (pn2 c2 : Nat) (sx2 : Bool) (sk2 sy2 : Int) (b2 : Option Addr) (fn2 d2 : Nat) (q1 k1 : Int) (f1 : Bool) (t1 : ByteArray) (x1 y1 z1 : Int) (q2 k2 : Int) (f2 : Bool) (t2 : ByteArray) (x2 y2 z2 : Int) (w : World) (HS1 : ∀ w', Below w.heap.size w w' → Calls Tryz.prog 8 #[.agg #[.int .i64 he, .int .i64 hp, .int .i64 ho, .int .i64 hn, .int .i64 hv], .string s, .agg #[.int .i64 e1, .bool hl1, .string l1, .int .i64 v1, .int .i64 o1, .int .i64 p1, .bool true, .bool st1, .int .i64 sv1, .slice a1 pn1 c1, .bool sx1, .int .i64 sk1, .int .i64 sy1, .slice b1 fn1 d1]] w' fun x w'' => x = .returned (.agg #[.int .i64 q1, .int .i64 k1, .bool f1, .string t1, .int .i64 x1, .int .i64 y1, .int .i64 z1]) ∧ Below w'.heap.size w' w'') (HS2 : ∀ w', Below w.heap.size w w' → Calls Tryz.prog 8 #[.agg #[.int .i64 he, .int .i64 hp, .int .i64 ho, .int .i64 hn, .int .i64 hv], .string s, .agg #[.int .i64 e2, .bool hl2, .string l2, .int .i64 v2, .int .i64 o2, .int .i64 p2, .bool false, .bool st2, .int .i64 sv2, .slice a2 pn2 c2, .bool sx2, .int .i64 sk2, .int .i64 sy2, .slice b2 fn2 d2]] w' fun x w'' => x = .returned (.agg #[.int .i64 q2, .int .i64 k2, .bool f2, .string t2, .int .i64 x2, .int .i64 y2, .int .i64 z2]) ∧ Below w'.heap.size w' w'') (hq : (q1 == 0) = true) (hq2 : (q2 == 0) = true) :
    Calls Tryz.prog 18 #[.agg #[.int .i64 he, .int .i64 hp, .int .i64 ho, .int .i64 hn, .int .i64 hv], .agg #[.string s, .int .i64 e1, .bool hl1, .string l1, .int .i64 v1, .int .i64 o1, .int .i64 p1, .bool true, .bool st1, .int .i64 sv1, .slice a1 pn1 c1, .bool sx1, .int .i64 sk1, .int .i64 sy1, .slice b1 fn1 d1, .int .i64 e2, .bool hl2, .string l2, .int .i64 v2, .int .i64 o2, .int .i64 p2, .bool false, .bool st2, .int .i64 sv2, .slice a2 pn2 c2, .bool sx2, .int .i64 sk2, .int .i64 sy2, .slice b2 fn2 d2]] w fun x w' => x = .returned (.bool (anQ k1 f1 t1 x1 y1 z1 k2 f2 t2 x2 y2 z2)) ∧ Below w.heap.size w w' := by
  have hQ := fun w => answer_eq k1 f1 t1 x1 y1 z1 k2 f2 t2 x2 y2 z2 w
  generalize anQ k1 f1 t1 x1 y1 z1 k2 f2 t2 x2 y2 z2 = bq at *
  obtain ⟨W, hW⟩ : ∃ W, W = (w.alloc (.cells #[.int .i64 he, .int .i64 hp, .int .i64 ho, .int .i64 hn, .int .i64 hv] 43)).alloc (.cells #[.string s, .int .i64 e1, .bool hl1, .string l1, .int .i64 v1, .int .i64 o1, .int .i64 p1, .bool true, .bool st1, .int .i64 sv1, .slice a1 pn1 c1, .bool sx1, .int .i64 sk1, .int .i64 sy1, .slice b1 fn1 d1, .int .i64 e2, .bool hl2, .string l2, .int .i64 v2, .int .i64 o2, .int .i64 p2, .bool false, .bool st2, .int .i64 sv2, .slice a2 pn2 c2, .bool sx2, .int .i64 sk2, .int .i64 sy2, .slice b2 fn2 d2] 67) := ⟨_, rfl⟩
  have HW : Hid ((w.alloc (.cells #[.int .i64 he, .int .i64 hp, .int .i64 ho, .int .i64 hn, .int .i64 hv] 43)).alloc (.cells #[.string s, .int .i64 e1, .bool hl1, .string l1, .int .i64 v1, .int .i64 o1, .int .i64 p1, .bool true, .bool st1, .int .i64 sv1, .slice a1 pn1 c1, .bool sx1, .int .i64 sk1, .int .i64 sy1, .slice b1 fn1 d1, .int .i64 e2, .bool hl2, .string l2, .int .i64 v2, .int .i64 o2, .int .i64 p2, .bool false, .bool st2, .int .i64 sv2, .slice a2 pn2 c2, .bool sx2, .int .i64 sk2, .int .i64 sy2, .slice b2 fn2 d2] 67) = W) := hW.symm
  have hB : Below w.heap.size w W := by rw [hW]; exact two_new _ _
  have B0 : Bx2 W w.heap.size (.cells #[.int .i64 he, .int .i64 hp, .int .i64 ho, .int .i64 hn, .int .i64 hv] 43) (.cells #[.string s, .int .i64 e1, .bool hl1, .string l1, .int .i64 v1, .int .i64 o1, .int .i64 p1, .bool true, .bool st1, .int .i64 sv1, .slice a1 pn1 c1, .bool sx1, .int .i64 sk1, .int .i64 sy1, .slice b1 fn1 d1, .int .i64 e2, .bool hl2, .string l2, .int .i64 v2, .int .i64 o2, .int .i64 p2, .bool false, .bool st2, .int .i64 sv2, .slice a2 pn2 c2, .bool sx2, .int .i64 sk2, .int .i64 sy2, .slice b2 fn2 d2] 67) := by rw [hW]; exact Bx2.new w _ _
  have HK : Hid (∀ w', Below W.heap.size W w' → Bx2 w' w.heap.size (.cells #[.int .i64 he, .int .i64 hp, .int .i64 ho, .int .i64 hn, .int .i64 hv] 43) (.cells #[.string s, .int .i64 e1, .bool hl1, .string l1, .int .i64 v1, .int .i64 o1, .int .i64 p1, .bool true, .bool st1, .int .i64 sv1, .slice a1 pn1 c1, .bool sx1, .int .i64 sk1, .int .i64 sy1, .slice b1 fn1 d1, .int .i64 e2, .bool hl2, .string l2, .int .i64 v2, .int .i64 o2, .int .i64 p2, .bool false, .bool st2, .int .i64 sv2, .slice a2 pn2 c2, .bool sx2, .int .i64 sk2, .int .i64 sy2, .slice b2 fn2 d2] 67)) := fun w' hb => B0.below hb
  obtain ⟨h0, h1, h2, h3, h4⟩ := five_cells B0.b0
  obtain ⟨m0, m1, m2, m3, m4, m5, m6, m7, m8, m9, m10, m11, m12, m13, m14, m15, m16, m17, m18, m19, m20, m21, m22, m23, m24, m25, m26, m27, m28⟩ := cells29 B0.b1
  clear hW B0
  go_enter Tryz.func18, Tryz.ntmps18
  go_upto_region 1 with fail
  rw [HW.out]
  go_wp2_with fail
  refine (HS1 _ hB).mono ?_
  rintro x w1 ⟨rfl, hb1⟩
  clear HS1 h0 h1 h2 h3 h4 m0 m1 m2 m3 m4 m5 m6 m7 m8 m9 m10 m11 m12 m13 m14 m15 m16 m17 m18 m19 m20 m21 m22 m23 m24 m25 m26 m27 m28
  obtain ⟨W1, hW1⟩ : ∃ W1, W1 = w1.alloc (.cells #[.int .i64 q1, .int .i64 k1, .bool f1, .string t1, .int .i64 x1, .int .i64 y1, .int .i64 z1] 41) := ⟨_, rfl⟩
  have HW1 : Hid (w1.alloc (.cells #[.int .i64 q1, .int .i64 k1, .bool f1, .string t1, .int .i64 x1, .int .i64 y1, .int .i64 z1] 41) = W1) := hW1.symm
  have hC1 : Below W.heap.size W W1 := by rw [hW1]; exact hb1.alloc hb1.size _
  have X1 : W1.heap[w1.heap.size]? = some (.cells #[.int .i64 q1, .int .i64 k1, .bool f1, .string t1, .int .i64 x1, .int .i64 y1, .int .i64 z1] 41) := by rw [hW1]; exact heap_alloc_new _ _
  have hg1 : w.heap.size + 1 < w1.heap.size := (Array.getElem?_eq_some_iff.1 (HK.out _ hb1).b1).1
  clear hW1 hb1
  go_upto_region 2 with fail
  rw [HW1.out]
  obtain ⟨h0, h1, h2, h3, h4⟩ := five_cells (HK.out _ hC1).b0
  obtain ⟨m0, m1, m2, m3, m4, m5, m6, m7, m8, m9, m10, m11, m12, m13, m14, m15, m16, m17, m18, m19, m20, m21, m22, m23, m24, m25, m26, m27, m28⟩ := cells29 (HK.out _ hC1).b1
  go_wp2_with fail
  refine (HS2 _ (below_after_of hB hC1)).mono ?_
  rintro x w2 ⟨rfl, hb2⟩
  clear HS2 h0 h1 h2 h3 h4 m0 m1 m2 m3 m4 m5 m6 m7 m8 m9 m10 m11 m12 m13 m14 m15 m16 m17 m18 m19 m20 m21 m22 m23 m24 m25 m26 m27 m28
  obtain ⟨W2, hW2⟩ : ∃ W2, W2 = w2.alloc (.cells #[.int .i64 q2, .int .i64 k2, .bool f2, .string t2, .int .i64 x2, .int .i64 y2, .int .i64 z2] 41) := ⟨_, rfl⟩
  have HW2 : Hid (w2.alloc (.cells #[.int .i64 q2, .int .i64 k2, .bool f2, .string t2, .int .i64 x2, .int .i64 y2, .int .i64 z2] 41) = W2) := hW2.symm
  have hb2' : Below W1.heap.size W1 W2 := by rw [hW2]; exact hb2.alloc hb2.size _
  have hC2 := below_after_of hC1 hb2'
  have X2 : W2.heap[w2.heap.size]? = some (.cells #[.int .i64 q2, .int .i64 k2, .bool f2, .string t2, .int .i64 x2, .int .i64 y2, .int .i64 z2] 41) := by rw [hW2]; exact heap_alloc_new _ _
  have X1 := (hb2'.block _ (Array.getElem?_eq_some_iff.1 X1).1).trans X1
  clear hW2 hb2 hb2'
  go_upto_region 3 with fail
  rw [HW2.out]
  obtain ⟨u0, u1, u2, u3, u4, u5, u6, -⟩ := seven_cells X1
  obtain ⟨s0, s1, s2, s3, s4, s5, s6, -⟩ := seven_cells X2
  obtain ⟨-, -, -, -, -, -, -, m7, -, -, -, -, -, -, -, -, -, -, -, -, -, m21, -, -, -, -, -, -, -⟩ := cells29 (HK.out _ hC2).b1
  have hBB := below_after_of hB hC2
  clear HK hC1 hC2 X1 X2 hB HW HW1 HW2
  go_wp2
  go_ret
  exact ⟨rfl, hBB⟩
theorem specSm_gen (he hp ho hn hv : Int) (s : ByteArray) (e1 : Int) (hl1 : Bool) (l1 : ByteArray) (v1 o1 p1 : Int) (so1 st1 : Bool) (sv1 : Int) (a1 : Option Addr) (pn1 c1 : Nat) (sx1 : Bool) (sk1 sy1 : Int) (b1 : Option Addr) (fn1 d1 : Nat) (e2 : Int) (hl2 : Bool) (l2 : ByteArray) (v2 o2 p2 : Int) (so2 st2 : Bool) (sv2 : Int) (a2 : Option Addr) (pn2 c2 : Nat) (sx2 : Bool) (sk2 sy2 : Int) (b2 : Option Addr) (fn2 d2 : Nat) (q1 k1 : Int) (f1 : Bool) (t1 : ByteArray) (x1 y1 z1 : Int) (q2 k2 : Int) (f2 : Bool) (t2 : ByteArray) (x2 y2 z2 : Int) (w : World) (HS1 : ∀ w', Below w.heap.size w w' → Calls Tryz.prog 8 #[.agg #[.int .i64 he, .int .i64 hp, .int .i64 ho, .int .i64 hn, .int .i64 hv], .string s, .agg #[.int .i64 e1, .bool hl1, .string l1, .int .i64 v1, .int .i64 o1, .int .i64 p1, .bool so1, .bool st1, .int .i64 sv1, .slice a1 pn1 c1, .bool sx1, .int .i64 sk1, .int .i64 sy1, .slice b1 fn1 d1]] w' fun x w'' => x = .returned (.agg #[.int .i64 q1, .int .i64 k1, .bool f1, .string t1, .int .i64 x1, .int .i64 y1, .int .i64 z1]) ∧ Below w'.heap.size w' w'') (HS2 : ∀ w', Below w.heap.size w w' → Calls Tryz.prog 8 #[.agg #[.int .i64 he, .int .i64 hp, .int .i64 ho, .int .i64 hn, .int .i64 hv], .string s, .agg #[.int .i64 e2, .bool hl2, .string l2, .int .i64 v2, .int .i64 o2, .int .i64 p2, .bool so2, .bool st2, .int .i64 sv2, .slice a2 pn2 c2, .bool sx2, .int .i64 sk2, .int .i64 sy2, .slice b2 fn2 d2]] w' fun x w'' => x = .returned (.agg #[.int .i64 q2, .int .i64 k2, .bool f2, .string t2, .int .i64 x2, .int .i64 y2, .int .i64 z2]) ∧ Below w'.heap.size w' w'') :
    Calls Tryz.prog 18 #[.agg #[.int .i64 he, .int .i64 hp, .int .i64 ho, .int .i64 hn, .int .i64 hv], .agg #[.string s, .int .i64 e1, .bool hl1, .string l1, .int .i64 v1, .int .i64 o1, .int .i64 p1, .bool so1, .bool st1, .int .i64 sv1, .slice a1 pn1 c1, .bool sx1, .int .i64 sk1, .int .i64 sy1, .slice b1 fn1 d1, .int .i64 e2, .bool hl2, .string l2, .int .i64 v2, .int .i64 o2, .int .i64 p2, .bool so2, .bool st2, .int .i64 sv2, .slice a2 pn2 c2, .bool sx2, .int .i64 sk2, .int .i64 sy2, .slice b2 fn2 d2]] w fun x w' => x = .returned (.bool (smR q1 q2 so1 so2 (anQ k1 f1 t1 x1 y1 z1 k2 f2 t2 x2 y2 z2))) ∧ Below w.heap.size w w' := by
  unfold smR
  rcases Bool.eq_false_or_eq_true (q1 == 0) with h1 | h1
  · rcases Bool.eq_false_or_eq_true (q2 == 0) with h2 | h2
    · rw [h1, h2]
      rcases Bool.eq_false_or_eq_true so1 with e | e
      · subst e
        rcases Bool.eq_false_or_eq_true so2 with e | e
        · subst e
          exact specSm_4 he hp ho hn hv s e1 hl1 l1 v1 o1 p1 st1 sv1 a1 pn1 c1 sx1 sk1 sy1 b1 fn1 d1 e2 hl2 l2 v2 o2 p2 st2 sv2 a2 pn2 c2 sx2 sk2 sy2 b2 fn2 d2 q1 k1 f1 t1 x1 y1 z1 q2 k2 f2 t2 x2 y2 z2 w HS1 HS2 h1 h2
        · subst e
          exact specSm_5 he hp ho hn hv s e1 hl1 l1 v1 o1 p1 st1 sv1 a1 pn1 c1 sx1 sk1 sy1 b1 fn1 d1 e2 hl2 l2 v2 o2 p2 st2 sv2 a2 pn2 c2 sx2 sk2 sy2 b2 fn2 d2 q1 k1 f1 t1 x1 y1 z1 q2 k2 f2 t2 x2 y2 z2 w HS1 HS2 h1 h2
      · subst e
        exact specSm_3 he hp ho hn hv s e1 hl1 l1 v1 o1 p1 st1 sv1 a1 pn1 c1 sx1 sk1 sy1 b1 fn1 d1 e2 hl2 l2 v2 o2 p2 so2 st2 sv2 a2 pn2 c2 sx2 sk2 sy2 b2 fn2 d2 q1 k1 f1 t1 x1 y1 z1 q2 k2 f2 t2 x2 y2 z2 w HS1 HS2 h1 h2
    · rw [h1, h2]
      exact specSm_2 he hp ho hn hv s e1 hl1 l1 v1 o1 p1 so1 st1 sv1 a1 pn1 c1 sx1 sk1 sy1 b1 fn1 d1 e2 hl2 l2 v2 o2 p2 so2 st2 sv2 a2 pn2 c2 sx2 sk2 sy2 b2 fn2 d2 q1 k1 f1 t1 x1 y1 z1 q2 k2 f2 t2 x2 y2 z2 w HS1 HS2 h1 h2
  · rw [h1]
    exact specSm_1 he hp ho hn hv s e1 hl1 l1 v1 o1 p1 so1 st1 sv1 a1 pn1 c1 sx1 sk1 sy1 b1 fn1 d1 e2 hl2 l2 v2 o2 p2 so2 st2 sv2 a2 pn2 c2 sx2 sk2 sy2 b2 fn2 d2 q1 k1 f1 t1 x1 y1 z1 q2 k2 f2 t2 x2 y2 z2 w HS1 HS2 h1
end U
end Go.Proofs.YtdbbmclobmigdaaGreat

/- A sample, by the program; both models at every argument. -/
namespace Go.Proofs.YtdbbmclobmigdaaGreat
open Go.RowKit
namespace U
/-- Is one told? -/
theorem one_eq (C V : Int) (w : World) : (binOp .eql 58 (.agg #[.int .i64 C, .int .i64 V]) (.agg #[.int .i64 0, .int .i64 1])).run Tryz.prog w = .ok (.bool ((C == 0) && (V == 1))) w := by
  simp [go_sem]
  by_cases h1 : C = 0 <;> by_cases h2 : V = 1 <;> simp [h1, h2]
set_option maxRecDepth 100000 in
set_option maxHeartbeats 4000000 in
theorem implSm_1 (he hp ho hn hv : Int) (s : ByteArray) (e1 : Int) (hl1 : Bool) (l1 : ByteArray) (v1 o1 p1 : Int) (st1 : Bool) (sv1 : Int) (a1 : Option Addr) (pn1 c1 : Nat) (sx1 : Bool) (sk1 sy1 : Int) (b1 : Option Addr) (fn1 d1 : Nat) (e2 : Int) (hl2 : Bool) (l2 : ByteArray) (v2 o2 p2 : Int) (so2 st2 : Bool) (sv2 : Int) (a2 : Option Addr) (pn2 c2 : Nat) (sx2 : Bool) (sk2 sy2 : Int) (b2 : Option Addr) (fn2 d2 : Nat) (w : World) :
    Calls Tryz.prog 20 #[.agg #[.int .i64 he, .int .i64 hp, .int .i64 ho, .int .i64 hn, .int .i64 hv], .agg #[.string s, .int .i64 e1, .bool hl1, .string l1, .int .i64 v1, .int .i64 o1, .int .i64 p1, .bool false, .bool st1, .int .i64 sv1, .slice a1 pn1 c1, .bool sx1, .int .i64 sk1, .int .i64 sy1, .slice b1 fn1 d1, .int .i64 e2, .bool hl2, .string l2, .int .i64 v2, .int .i64 o2, .int .i64 p2, .bool so2, .bool st2, .int .i64 sv2, .slice a2 pn2 c2, .bool sx2, .int .i64 sk2, .int .i64 sy2, .slice b2 fn2 d2]] w fun x w' => x = .returned (.bool false) ∧ Below w.heap.size w w' := by
  obtain ⟨W, hW⟩ : ∃ W, W = (w.alloc (.cells #[.int .i64 he, .int .i64 hp, .int .i64 ho, .int .i64 hn, .int .i64 hv] 43)).alloc (.cells #[.string s, .int .i64 e1, .bool hl1, .string l1, .int .i64 v1, .int .i64 o1, .int .i64 p1, .bool false, .bool st1, .int .i64 sv1, .slice a1 pn1 c1, .bool sx1, .int .i64 sk1, .int .i64 sy1, .slice b1 fn1 d1, .int .i64 e2, .bool hl2, .string l2, .int .i64 v2, .int .i64 o2, .int .i64 p2, .bool so2, .bool st2, .int .i64 sv2, .slice a2 pn2 c2, .bool sx2, .int .i64 sk2, .int .i64 sy2, .slice b2 fn2 d2] 67) := ⟨_, rfl⟩
  have HW : Hid ((w.alloc (.cells #[.int .i64 he, .int .i64 hp, .int .i64 ho, .int .i64 hn, .int .i64 hv] 43)).alloc (.cells #[.string s, .int .i64 e1, .bool hl1, .string l1, .int .i64 v1, .int .i64 o1, .int .i64 p1, .bool false, .bool st1, .int .i64 sv1, .slice a1 pn1 c1, .bool sx1, .int .i64 sk1, .int .i64 sy1, .slice b1 fn1 d1, .int .i64 e2, .bool hl2, .string l2, .int .i64 v2, .int .i64 o2, .int .i64 p2, .bool so2, .bool st2, .int .i64 sv2, .slice a2 pn2 c2, .bool sx2, .int .i64 sk2, .int .i64 sy2, .slice b2 fn2 d2] 67) = W) := hW.symm
  have hB : Below w.heap.size w W := by rw [hW]; exact two_new _ _
  have B0 : Bx2 W w.heap.size (.cells #[.int .i64 he, .int .i64 hp, .int .i64 ho, .int .i64 hn, .int .i64 hv] 43) (.cells #[.string s, .int .i64 e1, .bool hl1, .string l1, .int .i64 v1, .int .i64 o1, .int .i64 p1, .bool false, .bool st1, .int .i64 sv1, .slice a1 pn1 c1, .bool sx1, .int .i64 sk1, .int .i64 sy1, .slice b1 fn1 d1, .int .i64 e2, .bool hl2, .string l2, .int .i64 v2, .int .i64 o2, .int .i64 p2, .bool so2, .bool st2, .int .i64 sv2, .slice a2 pn2 c2, .bool sx2, .int .i64 sk2, .int .i64 sy2, .slice b2 fn2 d2] 67) := by rw [hW]; exact Bx2.new w _ _
  obtain ⟨h0, h1, h2, h3, h4⟩ := five_cells B0.b0
  obtain ⟨-, -, -, -, -, -, -, m7, -, -, -, -, -, -, -, -, -, -, -, -, -, -, -, -, -, -, -, -, -⟩ := cells29 B0.b1
  clear hW B0
  go_enter Tryz.func20, Tryz.ntmps20
  go_upto_region 1 with fail
  rw [HW.out]
  go_wp2
  go_ret
  exact ⟨rfl, hB⟩
set_option maxRecDepth 100000 in
set_option maxHeartbeats 4000000 in
theorem implSm_2 (he hp ho hn hv : Int) (s : ByteArray) (e1 : Int) (hl1 : Bool) (l1 : ByteArray) (v1 o1 p1 : Int) (st1 : Bool) (sv1 : Int) (a1 : Option Addr) (pn1 c1 : Nat) (sx1 : Bool) (sk1 sy1 : Int) (b1 : Option Addr) (fn1 d1 : Nat) (e2 : Int) (hl2 : Bool) (l2 : ByteArray) (v2 o2 p2 : Int) (st2 : Bool) (sv2 : Int) (a2 : Option Addr) (pn2 c2 : Nat) (sx2 : Bool) (sk2 sy2 : Int) (b2 : Option Addr) (fn2 d2 : Nat) (w : World) :
    Calls Tryz.prog 20 #[.agg #[.int .i64 he, .int .i64 hp, .int .i64 ho, .int .i64 hn, .int .i64 hv], .agg #[.string s, .int .i64 e1, .bool hl1, .string l1, .int .i64 v1, .int .i64 o1, .int .i64 p1, .bool true, .bool st1, .int .i64 sv1, .slice a1 pn1 c1, .bool sx1, .int .i64 sk1, .int .i64 sy1, .slice b1 fn1 d1, .int .i64 e2, .bool hl2, .string l2, .int .i64 v2, .int .i64 o2, .int .i64 p2, .bool true, .bool st2, .int .i64 sv2, .slice a2 pn2 c2, .bool sx2, .int .i64 sk2, .int .i64 sy2, .slice b2 fn2 d2]] w fun x w' => x = .returned (.bool false) ∧ Below w.heap.size w w' := by
  obtain ⟨W, hW⟩ : ∃ W, W = (w.alloc (.cells #[.int .i64 he, .int .i64 hp, .int .i64 ho, .int .i64 hn, .int .i64 hv] 43)).alloc (.cells #[.string s, .int .i64 e1, .bool hl1, .string l1, .int .i64 v1, .int .i64 o1, .int .i64 p1, .bool true, .bool st1, .int .i64 sv1, .slice a1 pn1 c1, .bool sx1, .int .i64 sk1, .int .i64 sy1, .slice b1 fn1 d1, .int .i64 e2, .bool hl2, .string l2, .int .i64 v2, .int .i64 o2, .int .i64 p2, .bool true, .bool st2, .int .i64 sv2, .slice a2 pn2 c2, .bool sx2, .int .i64 sk2, .int .i64 sy2, .slice b2 fn2 d2] 67) := ⟨_, rfl⟩
  have HW : Hid ((w.alloc (.cells #[.int .i64 he, .int .i64 hp, .int .i64 ho, .int .i64 hn, .int .i64 hv] 43)).alloc (.cells #[.string s, .int .i64 e1, .bool hl1, .string l1, .int .i64 v1, .int .i64 o1, .int .i64 p1, .bool true, .bool st1, .int .i64 sv1, .slice a1 pn1 c1, .bool sx1, .int .i64 sk1, .int .i64 sy1, .slice b1 fn1 d1, .int .i64 e2, .bool hl2, .string l2, .int .i64 v2, .int .i64 o2, .int .i64 p2, .bool true, .bool st2, .int .i64 sv2, .slice a2 pn2 c2, .bool sx2, .int .i64 sk2, .int .i64 sy2, .slice b2 fn2 d2] 67) = W) := hW.symm
  have hB : Below w.heap.size w W := by rw [hW]; exact two_new _ _
  have B0 : Bx2 W w.heap.size (.cells #[.int .i64 he, .int .i64 hp, .int .i64 ho, .int .i64 hn, .int .i64 hv] 43) (.cells #[.string s, .int .i64 e1, .bool hl1, .string l1, .int .i64 v1, .int .i64 o1, .int .i64 p1, .bool true, .bool st1, .int .i64 sv1, .slice a1 pn1 c1, .bool sx1, .int .i64 sk1, .int .i64 sy1, .slice b1 fn1 d1, .int .i64 e2, .bool hl2, .string l2, .int .i64 v2, .int .i64 o2, .int .i64 p2, .bool true, .bool st2, .int .i64 sv2, .slice a2 pn2 c2, .bool sx2, .int .i64 sk2, .int .i64 sy2, .slice b2 fn2 d2] 67) := by rw [hW]; exact Bx2.new w _ _
  obtain ⟨h0, h1, h2, h3, h4⟩ := five_cells B0.b0
  obtain ⟨-, -, -, -, -, -, -, m7, -, -, -, -, -, -, -, -, -, -, -, -, -, m21, -, -, -, -, -, -, -⟩ := cells29 B0.b1
  clear hW B0
  go_enter Tryz.func20, Tryz.ntmps20
  go_upto_region 1 with fail
  rw [HW.out]
  go_wp2
  go_ret
  exact ⟨rfl, hB⟩
set_option maxRecDepth 100000 in
set_option maxHeartbeats 4000000 in
theorem implSm_3 (he hp ho hn hv : Int) (s : ByteArray) (e1 : Int) (hl1 : Bool) (l1 : ByteArray) (v1 o1 p1 : Int) (st1 : Bool) (sv1 : Int) (a1 : Option Addr) (pn1 c1 : Nat) (sx1 : Bool) (sk1 sy1 : Int) (b1 : Option Addr) (fn1 d1 : Nat) (e2 : Int) (hl2 : Bool) (l2 : ByteArray) (v2 o2 p2 : Int) (st2 : Bool) (sv2 : Int) (a2 : Option Addr) (pn2 c2 : Nat) (sx2 : Bool) (sk2 sy2 : Int) (b2 : Option Addr) (fn2 d2 : Nat) (C V : Int) (w : World) (HB : ∀ w', Below w.heap.size w w' → Calls Tryz.prog 15 #[.agg #[.int .i64 he, .int .i64 hp, .int .i64 ho, .int .i64 hn, .int .i64 hv], .string s, .agg #[.int .i64 e1, .bool hl1, .string l1, .int .i64 v1, .int .i64 o1, .int .i64 p1, .bool true, .bool st1, .int .i64 sv1, .slice a1 pn1 c1, .bool sx1, .int .i64 sk1, .int .i64 sy1, .slice b1 fn1 d1], .agg #[.int .i64 e2, .bool hl2, .string l2, .int .i64 v2, .int .i64 o2, .int .i64 p2, .bool false, .bool st2, .int .i64 sv2, .slice a2 pn2 c2, .bool sx2, .int .i64 sk2, .int .i64 sy2, .slice b2 fn2 d2]] w' fun x w'' => x = .returned (.agg #[.int .i64 C, .int .i64 V]) ∧ Below w'.heap.size w' w'') :
    Calls Tryz.prog 20 #[.agg #[.int .i64 he, .int .i64 hp, .int .i64 ho, .int .i64 hn, .int .i64 hv], .agg #[.string s, .int .i64 e1, .bool hl1, .string l1, .int .i64 v1, .int .i64 o1, .int .i64 p1, .bool true, .bool st1, .int .i64 sv1, .slice a1 pn1 c1, .bool sx1, .int .i64 sk1, .int .i64 sy1, .slice b1 fn1 d1, .int .i64 e2, .bool hl2, .string l2, .int .i64 v2, .int .i64 o2, .int .i64 p2, .bool false, .bool st2, .int .i64 sv2, .slice a2 pn2 c2, .bool sx2, .int .i64 sk2, .int .i64 sy2, .slice b2 fn2 d2]] w fun x w' => x = .returned (.bool ((C == 0) && (V == 1))) ∧ Below w.heap.size w w' := by
  have hQ := fun w => one_eq C V w
  generalize ((C == 0) && (V == 1)) = bq at *
  obtain ⟨W, hW⟩ : ∃ W, W = (w.alloc (.cells #[.int .i64 he, .int .i64 hp, .int .i64 ho, .int .i64 hn, .int .i64 hv] 43)).alloc (.cells #[.string s, .int .i64 e1, .bool hl1, .string l1, .int .i64 v1, .int .i64 o1, .int .i64 p1, .bool true, .bool st1, .int .i64 sv1, .slice a1 pn1 c1, .bool sx1, .int .i64 sk1, .int .i64 sy1, .slice b1 fn1 d1, .int .i64 e2, .bool hl2, .string l2, .int .i64 v2, .int .i64 o2, .int .i64 p2, .bool false, .bool st2, .int .i64 sv2, .slice a2 pn2 c2, .bool sx2, .int .i64 sk2, .int .i64 sy2, .slice b2 fn2 d2] 67) := ⟨_, rfl⟩
  have HW : Hid ((w.alloc (.cells #[.int .i64 he, .int .i64 hp, .int .i64 ho, .int .i64 hn, .int .i64 hv] 43)).alloc (.cells #[.string s, .int .i64 e1, .bool hl1, .string l1, .int .i64 v1, .int .i64 o1, .int .i64 p1, .bool true, .bool st1, .int .i64 sv1, .slice a1 pn1 c1, .bool sx1, .int .i64 sk1, .int .i64 sy1, .slice b1 fn1 d1, .int .i64 e2, .bool hl2, .string l2, .int .i64 v2, .int .i64 o2, .int .i64 p2, .bool false, .bool st2, .int .i64 sv2, .slice a2 pn2 c2, .bool sx2, .int .i64 sk2, .int .i64 sy2, .slice b2 fn2 d2] 67) = W) := hW.symm
  have hB : Below w.heap.size w W := by rw [hW]; exact two_new _ _
  have B0 : Bx2 W w.heap.size (.cells #[.int .i64 he, .int .i64 hp, .int .i64 ho, .int .i64 hn, .int .i64 hv] 43) (.cells #[.string s, .int .i64 e1, .bool hl1, .string l1, .int .i64 v1, .int .i64 o1, .int .i64 p1, .bool true, .bool st1, .int .i64 sv1, .slice a1 pn1 c1, .bool sx1, .int .i64 sk1, .int .i64 sy1, .slice b1 fn1 d1, .int .i64 e2, .bool hl2, .string l2, .int .i64 v2, .int .i64 o2, .int .i64 p2, .bool false, .bool st2, .int .i64 sv2, .slice a2 pn2 c2, .bool sx2, .int .i64 sk2, .int .i64 sy2, .slice b2 fn2 d2] 67) := by rw [hW]; exact Bx2.new w _ _
  obtain ⟨h0, h1, h2, h3, h4⟩ := five_cells B0.b0
  obtain ⟨m0, m1, m2, m3, m4, m5, m6, m7, m8, m9, m10, m11, m12, m13, m14, m15, m16, m17, m18, m19, m20, m21, m22, m23, m24, m25, m26, m27, m28⟩ := cells29 B0.b1
  clear hW B0
  go_enter Tryz.func20, Tryz.ntmps20
  go_upto_region 1 with fail
  rw [HW.out]
  go_wp2_with fail
  refine (HB _ hB).mono ?_
  rintro x w1 ⟨rfl, hb1⟩
  have hBB := below_after_of hB hb1
  clear HB hb1 h0 h1 h2 h3 h4 m0 m1 m2 m3 m4 m5 m6 m7 m8 m9 m10 m11 m12 m13 m14 m15 m16 m17 m18 m19 m20 m21 m22 m23 m24 m25 m26 m27 m28 hB HW
  go_wp2
  go_ret
  exact ⟨rfl, hBB⟩
theorem implSm_gen (he hp ho hn hv : Int) (s : ByteArray) (e1 : Int) (hl1 : Bool) (l1 : ByteArray) (v1 o1 p1 : Int) (so1 st1 : Bool) (sv1 : Int) (a1 : Option Addr) (pn1 c1 : Nat) (sx1 : Bool) (sk1 sy1 : Int) (b1 : Option Addr) (fn1 d1 : Nat) (e2 : Int) (hl2 : Bool) (l2 : ByteArray) (v2 o2 p2 : Int) (so2 st2 : Bool) (sv2 : Int) (a2 : Option Addr) (pn2 c2 : Nat) (sx2 : Bool) (sk2 sy2 : Int) (b2 : Option Addr) (fn2 d2 : Nat) (C V : Int) (w : World) (HB : ∀ w', Below w.heap.size w w' → Calls Tryz.prog 15 #[.agg #[.int .i64 he, .int .i64 hp, .int .i64 ho, .int .i64 hn, .int .i64 hv], .string s, .agg #[.int .i64 e1, .bool hl1, .string l1, .int .i64 v1, .int .i64 o1, .int .i64 p1, .bool so1, .bool st1, .int .i64 sv1, .slice a1 pn1 c1, .bool sx1, .int .i64 sk1, .int .i64 sy1, .slice b1 fn1 d1], .agg #[.int .i64 e2, .bool hl2, .string l2, .int .i64 v2, .int .i64 o2, .int .i64 p2, .bool so2, .bool st2, .int .i64 sv2, .slice a2 pn2 c2, .bool sx2, .int .i64 sk2, .int .i64 sy2, .slice b2 fn2 d2]] w' fun x w'' => x = .returned (.agg #[.int .i64 C, .int .i64 V]) ∧ Below w'.heap.size w' w'') :
    Calls Tryz.prog 20 #[.agg #[.int .i64 he, .int .i64 hp, .int .i64 ho, .int .i64 hn, .int .i64 hv], .agg #[.string s, .int .i64 e1, .bool hl1, .string l1, .int .i64 v1, .int .i64 o1, .int .i64 p1, .bool so1, .bool st1, .int .i64 sv1, .slice a1 pn1 c1, .bool sx1, .int .i64 sk1, .int .i64 sy1, .slice b1 fn1 d1, .int .i64 e2, .bool hl2, .string l2, .int .i64 v2, .int .i64 o2, .int .i64 p2, .bool so2, .bool st2, .int .i64 sv2, .slice a2 pn2 c2, .bool sx2, .int .i64 sk2, .int .i64 sy2, .slice b2 fn2 d2]] w fun x w' => x = .returned (.bool (so1 && (!so2 && ((C == 0) && (V == 1))))) ∧ Below w.heap.size w w' := by
  rcases Bool.eq_false_or_eq_true so1 with e | e
  · subst e
    rcases Bool.eq_false_or_eq_true so2 with e | e
    · subst e
      exact implSm_2 he hp ho hn hv s e1 hl1 l1 v1 o1 p1 st1 sv1 a1 pn1 c1 sx1 sk1 sy1 b1 fn1 d1 e2 hl2 l2 v2 o2 p2 st2 sv2 a2 pn2 c2 sx2 sk2 sy2 b2 fn2 d2 w
    · subst e
      exact implSm_3 he hp ho hn hv s e1 hl1 l1 v1 o1 p1 st1 sv1 a1 pn1 c1 sx1 sk1 sy1 b1 fn1 d1 e2 hl2 l2 v2 o2 p2 st2 sv2 a2 pn2 c2 sx2 sk2 sy2 b2 fn2 d2 C V w HB
  · subst e
    exact implSm_1 he hp ho hn hv s e1 hl1 l1 v1 o1 p1 st1 sv1 a1 pn1 c1 sx1 sk1 sy1 b1 fn1 d1 e2 hl2 l2 v2 o2 p2 so2 st2 sv2 a2 pn2 c2 sx2 sk2 sy2 b2 fn2 d2 w
theorem smR_both (q1 q2 : Int) (so1 so2 b : Bool) : (so1 && (!so2 && ((bvC q1 q2 == 0) && (bvV q1 q2 b == 1)))) = smR q1 q2 so1 so2 b := by
  unfold smR bvC bvV
  by_cases h1 : q1 = 0
  · by_cases h2 : q2 = 0
    · subst h1 h2
      cases so1 <;> cases so2 <;> cases b <;> rfl
    · have e2 : (q2 == 0) = false := by simpa using h2
      subst h1
      rw [if_pos rfl, if_pos rfl, if_neg h2, e2]
      cases so1 <;> cases so2 <;> rfl
  · have e1 : (q1 == 0) = false := by simpa using h1
    rw [if_neg h1, if_neg h1, e1]
    cases so1 <;> cases so2 <;> rfl
/-- What is told of a sample whose replies are seen. -/
def SmOf (u1 u2 : Value) (so1 so2 r : Bool) : Prop := ∃ q1 k1 f1 t1 x1 y1 z1 q2 k2 f2 t2 x2 y2 z2, u1 = .agg #[.int .i64 q1, .int .i64 k1, .bool f1, .string t1, .int .i64 x1, .int .i64 y1, .int .i64 z1] ∧ u2 = .agg #[.int .i64 q2, .int .i64 k2, .bool f2, .string t2, .int .i64 x2, .int .i64 y2, .int .i64 z2] ∧ smR q1 q2 so1 so2 (anQ k1 f1 t1 x1 y1 z1 k2 f2 t2 x2 y2 z2) = r
theorem SmOf.ex (he hp ho hn hv : Int) (s : ByteArray) (e1 : Int) (hl1 : Bool) (l1 : ByteArray) (v1 o1 p1 : Int) (so1 st1 : Bool) (sv1 : Int) (ps1 : List Int) (sx1 : Bool) (sk1 sy1 : Int) (m1 : Prl) (e2 : Int) (hl2 : Bool) (l2 : ByteArray) (v2 o2 p2 : Int) (so2 st2 : Bool) (sv2 : Int) (ps2 : List Int) (sx2 : Bool) (sk2 sy2 : Int) (m2 : Prl) : ∃ r, SmOf (seeVal he hp ho hn hv s e1 hl1 l1 v1 o1 p1 so1 st1 sv1 ps1 sx1 sk1 sy1 m1) (seeVal he hp ho hn hv s e2 hl2 l2 v2 o2 p2 so2 st2 sv2 ps2 sx2 sk2 sy2 m2) so1 so2 r := by
  obtain ⟨q1, k1, f1, t1, x1, y1, z1, h1⟩ := seeV_shape he hp ho hn hv s e1 hl1 l1 v1 o1 p1 so1 st1 sv1 ps1 sx1 sk1 sy1 m1
  obtain ⟨q2, k2, f2, t2, x2, y2, z2, h2⟩ := seeV_shape he hp ho hn hv s e2 hl2 l2 v2 o2 p2 so2 st2 sv2 ps2 sx2 sk2 sy2 m2
  exact ⟨_, q1, k1, f1, t1, x1, y1, z1, q2, k2, f2, t2, x2, y2, z2, h1, h2, rfl⟩
set_option maxRecDepth 100000 in
theorem specSm_at (he hp ho hn hv : Int) (s : ByteArray) (hls : s.size ≤ 1048576) (e1 : Int) (hl1 : Bool) (l1 : ByteArray) (v1 o1 p1 : Int) (so1 st1 : Bool) (sv1 : Int) (ps1 : List Int) (sx1 : Bool) (sk1 sy1 : Int) (m1 : Prl) (e2 : Int) (hl2 : Bool) (l2 : ByteArray) (v2 o2 p2 : Int) (so2 st2 : Bool) (sv2 : Int) (ps2 : List Int) (sx2 : Bool) (sk2 sy2 : Int) (m2 : Prl) (r : Bool) (hr : SmOf (seeVal he hp ho hn hv s e1 hl1 l1 v1 o1 p1 so1 st1 sv1 ps1 sx1 sk1 sy1 m1) (seeVal he hp ho hn hv s e2 hl2 l2 v2 o2 p2 so2 st2 sv2 ps2 sx2 sk2 sy2 m2) so1 so2 r) (hs1 : l1.size ≤ 1048576) (hp1 : ps1.length ≤ 1048576) (hs2 : l2.size ≤ 1048576) (hp2 : ps2.length ≤ 1048576) (a1 b1 a2 b2 : Option Addr) (c1 d1 c2 d2 : Nat) (w : World) (I1 : Ints .i64 w (.slice a1 ps1.length c1) ps1) (P1 : Prs w (.slice b1 m1.length d1) m1) (I2 : Ints .i64 w (.slice a2 ps2.length c2) ps2) (P2 : Prs w (.slice b2 m2.length d2) m2) :
    Calls Tryz.prog 18 #[.agg #[.int .i64 he, .int .i64 hp, .int .i64 ho, .int .i64 hn, .int .i64 hv], .agg #[.string s, .int .i64 e1, .bool hl1, .string l1, .int .i64 v1, .int .i64 o1, .int .i64 p1, .bool so1, .bool st1, .int .i64 sv1, .slice a1 ps1.length c1, .bool sx1, .int .i64 sk1, .int .i64 sy1, .slice b1 m1.length d1, .int .i64 e2, .bool hl2, .string l2, .int .i64 v2, .int .i64 o2, .int .i64 p2, .bool so2, .bool st2, .int .i64 sv2, .slice a2 ps2.length c2, .bool sx2, .int .i64 sk2, .int .i64 sy2, .slice b2 m2.length d2]] w fun x w' => x = .returned (.bool r) ∧ Below w.heap.size w w' := by
  obtain ⟨q1, k1, f1, t1, x1, y1, z1, q2, k2, f2, t2, x2, y2, z2, e1', e2', rfl⟩ := hr
  refine specSm_gen he hp ho hn hv s e1 hl1 l1 v1 o1 p1 so1 st1 sv1 a1 _ c1 sx1 sk1 sy1 b1 _ d1 e2 hl2 l2 v2 o2 p2 so2 st2 sv2 a2 _ c2 sx2 sk2 sy2 b2 _ d2 q1 k1 f1 t1 x1 y1 z1 q2 k2 f2 t2 x2 y2 z2 w (fun w' hb => ?_) (fun w' hb => ?_)
  · skip
    have h := specSeeReply_any he hp ho hn hv s e1 hl1 l1 v1 o1 p1 so1 st1 sv1 _ sx1 sk1 sy1 _ ps1 m1 w' (I1.below hb) (P1.below hb) hs1 hp1 hls
    rw [e1'] at h
    unfold hdV rpV at h
    exact h
  · skip
    have h := specSeeReply_any he hp ho hn hv s e2 hl2 l2 v2 o2 p2 so2 st2 sv2 _ sx2 sk2 sy2 _ ps2 m2 w' (I2.below hb) (P2.below hb) hs2 hp2 hls
    rw [e2'] at h
    unfold hdV rpV at h
    exact h
set_option maxRecDepth 100000 in
theorem implSm_at (he hp ho hn hv : Int) (s : ByteArray) (hls : s.size ≤ 1048576) (e1 : Int) (hl1 : Bool) (l1 : ByteArray) (v1 o1 p1 : Int) (so1 st1 : Bool) (sv1 : Int) (ps1 : List Int) (sx1 : Bool) (sk1 sy1 : Int) (m1 : Prl) (e2 : Int) (hl2 : Bool) (l2 : ByteArray) (v2 o2 p2 : Int) (so2 st2 : Bool) (sv2 : Int) (ps2 : List Int) (sx2 : Bool) (sk2 sy2 : Int) (m2 : Prl) (r : Bool) (hr : SmOf (seeVal he hp ho hn hv s e1 hl1 l1 v1 o1 p1 so1 st1 sv1 ps1 sx1 sk1 sy1 m1) (seeVal he hp ho hn hv s e2 hl2 l2 v2 o2 p2 so2 st2 sv2 ps2 sx2 sk2 sy2 m2) so1 so2 r) (hs1 : l1.size ≤ 1048576) (hp1 : ps1.length ≤ 1048576) (hm1 : m1.length ≤ 1048576) (hs2 : l2.size ≤ 1048576) (hp2 : ps2.length ≤ 1048576) (hm2 : m2.length ≤ 1048576) (a1 b1 a2 b2 : Option Addr) (c1 d1 c2 d2 : Nat) (w : World) (I1 : Ints .i64 w (.slice a1 ps1.length c1) ps1) (P1 : Prs w (.slice b1 m1.length d1) m1) (I2 : Ints .i64 w (.slice a2 ps2.length c2) ps2) (P2 : Prs w (.slice b2 m2.length d2) m2) :
    Calls Tryz.prog 20 #[.agg #[.int .i64 he, .int .i64 hp, .int .i64 ho, .int .i64 hn, .int .i64 hv], .agg #[.string s, .int .i64 e1, .bool hl1, .string l1, .int .i64 v1, .int .i64 o1, .int .i64 p1, .bool so1, .bool st1, .int .i64 sv1, .slice a1 ps1.length c1, .bool sx1, .int .i64 sk1, .int .i64 sy1, .slice b1 m1.length d1, .int .i64 e2, .bool hl2, .string l2, .int .i64 v2, .int .i64 o2, .int .i64 p2, .bool so2, .bool st2, .int .i64 sv2, .slice a2 ps2.length c2, .bool sx2, .int .i64 sk2, .int .i64 sy2, .slice b2 m2.length d2]] w fun x w' => x = .returned (.bool r) ∧ Below w.heap.size w w' := by
  obtain ⟨q1, k1, f1, t1, x1, y1, z1, q2, k2, f2, t2, x2, y2, z2, e1', e2', rfl⟩ := hr
  rw [← smR_both]
  exact implSm_gen he hp ho hn hv s e1 hl1 l1 v1 o1 p1 so1 st1 sv1 a1 _ c1 sx1 sk1 sy1 b1 _ d1 e2 hl2 l2 v2 o2 p2 so2 st2 sv2 a2 _ c2 sx2 sk2 sy2 b2 _ d2 _ _ w (fun w' hb =>
    implBoth_at he hp ho hn hv s hls e1 hl1 l1 v1 o1 p1 so1 st1 sv1 ps1 sx1 sk1 sy1 m1 e2 hl2 l2 v2 o2 p2 so2 st2 sv2 ps2 sx2 sk2 sy2 m2 _ _ ⟨q1, k1, f1, t1, x1, y1, z1, q2, k2, f2, t2, x2, y2, z2, e1', e2', rfl, rfl⟩ hs1 hp1 hm1 hs2 hp2 hm2 a1 b1 a2 b2 c1 d1 c2 d2 w' (I1.below hb) (P1.below hb) (I2.below hb) (P2.below hb))
end U
end Go.Proofs.YtdbbmclobmigdaaGreat

/- Samples as the laws hold them: their size, turned into the program's, compared. -/
namespace Go.Proofs.YtdbbmclobmigdaaGreat
open Go.RowKit
namespace U
theorem frozen29 {w : World} {g : Nat} {v0 v1 v2 v3 v4 v5 v6 v7 v8 v9 v10 v11 v12 v13 v14 v15 v16 v17 v18 v19 v20 v21 v22 v23 v24 v25 v26 v27 v28 : Value} {ty : TypeId} (h : w.heap[g]? = some (.cells #[v0, v1, v2, v3, v4, v5, v6, v7, v8, v9, v10, v11, v12, v13, v14, v15, v16, v17, v18, v19, v20, v21, v22, v23, v24, v25, v26, v27, v28] ty)) : w.frozen? ⟨g, 0, none⟩ = false ∧ w.frozen? ⟨g, 1, none⟩ = false ∧ w.frozen? ⟨g, 2, none⟩ = false ∧ w.frozen? ⟨g, 3, none⟩ = false ∧ w.frozen? ⟨g, 4, none⟩ = false ∧ w.frozen? ⟨g, 5, none⟩ = false ∧ w.frozen? ⟨g, 6, none⟩ = false ∧ w.frozen? ⟨g, 7, none⟩ = false ∧ w.frozen? ⟨g, 8, none⟩ = false ∧ w.frozen? ⟨g, 9, none⟩ = false ∧ w.frozen? ⟨g, 10, none⟩ = false ∧ w.frozen? ⟨g, 11, none⟩ = false ∧ w.frozen? ⟨g, 12, none⟩ = false ∧ w.frozen? ⟨g, 13, none⟩ = false ∧ w.frozen? ⟨g, 14, none⟩ = false ∧ w.frozen? ⟨g, 15, none⟩ = false ∧ w.frozen? ⟨g, 16, none⟩ = false ∧ w.frozen? ⟨g, 17, none⟩ = false ∧ w.frozen? ⟨g, 18, none⟩ = false ∧ w.frozen? ⟨g, 19, none⟩ = false ∧ w.frozen? ⟨g, 20, none⟩ = false ∧ w.frozen? ⟨g, 21, none⟩ = false ∧ w.frozen? ⟨g, 22, none⟩ = false ∧ w.frozen? ⟨g, 23, none⟩ = false ∧ w.frozen? ⟨g, 24, none⟩ = false ∧ w.frozen? ⟨g, 25, none⟩ = false ∧ w.frozen? ⟨g, 26, none⟩ = false ∧ w.frozen? ⟨g, 27, none⟩ = false ∧ w.frozen? ⟨g, 28, none⟩ = false := by
  refine ⟨?_, ?_, ?_, ?_, ?_, ?_, ?_, ?_, ?_, ?_, ?_, ?_, ?_, ?_, ?_, ?_, ?_, ?_, ?_, ?_, ?_, ?_, ?_, ?_, ?_, ?_, ?_, ?_, ?_⟩ <;> (unfold World.frozen?; rw [h]; rfl)
theorem grown_setM (w : World) (b i : Nat) (v : Value) : w.grownBy (w.setCell ⟨b, i, none⟩ v) (some b) := by
  have h := (Below.refl 0 w).setCell (p := ⟨b, i, none⟩) (Nat.zero_le _) v
  exact ⟨h.os, h.tape, h.output, h.size, fun k _ hne => heap_setCell_other _ _ _ _ (fun e => hne (by rw [e]))⟩
set_option maxRecDepth 100000 in
set_option maxHeartbeats 4000000 in
theorem szSample_any (s : ByteArray) (e1 : Int) (hl1 : Bool) (l1 : ByteArray) (v1 o1 p1 : Int) (so1 st1 : Bool) (sv1 : Int) (a1 : Option Addr) (pn1 c1 : Nat) (sx1 : Bool) (sk1 sy1 : Int) (b1 : Option Addr) (fn1 d1 : Nat) (e2 : Int) (hl2 : Bool) (l2 : ByteArray) (v2 o2 p2 : Int) (so2 st2 : Bool) (sv2 : Int) (a2 : Option Addr) (pn2 c2 : Nat) (sx2 : Bool) (sk2 sy2 : Int) (b2 : Option Addr) (fn2 d2 : Nat) (w : World) (hs : s.size ≤ maxLen) (h1 : l1.size ≤ maxLen) (h2 : pn1 ≤ maxLen) (h3 : fn1 ≤ maxLen) (h4 : l2.size ≤ maxLen) (h5 : pn2 ≤ maxLen) (h6 : fn2 ≤ maxLen) :
    Calls Tryz.prog 17 #[.agg #[.string s, .int .i64 e1, .bool hl1, .string l1, .int .i64 v1, .int .i64 o1, .int .i64 p1, .bool so1, .bool st1, .int .i64 sv1, .slice a1 pn1 c1, .bool sx1, .int .i64 sk1, .int .i64 sy1, .slice b1 fn1 d1, .int .i64 e2, .bool hl2, .string l2, .int .i64 v2, .int .i64 o2, .int .i64 p2, .bool so2, .bool st2, .int .i64 sv2, .slice a2 pn2 c2, .bool sx2, .int .i64 sk2, .int .i64 sy2, .slice b2 fn2 d2], .int .i64 1048576] w fun x w' => ∃ z : Int, x = .returned (.int .i64 z) ∧ (z < 0 ∨ s.size + (l1.size + pn1 + fn1) + (l2.size + pn2 + fn2) ≤ 1048576) ∧ Below w.heap.size w w' := by
  obtain ⟨W, hW⟩ : ∃ W, W = w.alloc (.cells #[.string s, .int .i64 e1, .bool hl1, .string l1, .int .i64 v1, .int .i64 o1, .int .i64 p1, .bool so1, .bool st1, .int .i64 sv1, .slice a1 pn1 c1, .bool sx1, .int .i64 sk1, .int .i64 sy1, .slice b1 fn1 d1, .int .i64 e2, .bool hl2, .string l2, .int .i64 v2, .int .i64 o2, .int .i64 p2, .bool so2, .bool st2, .int .i64 sv2, .slice a2 pn2 c2, .bool sx2, .int .i64 sk2, .int .i64 sy2, .slice b2 fn2 d2] 63) := ⟨_, rfl⟩
  have HW : Hid (w.alloc (.cells #[.string s, .int .i64 e1, .bool hl1, .string l1, .int .i64 v1, .int .i64 o1, .int .i64 p1, .bool so1, .bool st1, .int .i64 sv1, .slice a1 pn1 c1, .bool sx1, .int .i64 sk1, .int .i64 sy1, .slice b1 fn1 d1, .int .i64 e2, .bool hl2, .string l2, .int .i64 v2, .int .i64 o2, .int .i64 p2, .bool so2, .bool st2, .int .i64 sv2, .slice a2 pn2 c2, .bool sx2, .int .i64 sk2, .int .i64 sy2, .slice b2 fn2 d2] 63) = W) := hW.symm
  have hB : Below w.heap.size w W := by rw [hW]; exact one_new _
  have K0 : W.heap[w.heap.size]? = some (.cells #[.string s, .int .i64 e1, .bool hl1, .string l1, .int .i64 v1, .int .i64 o1, .int .i64 p1, .bool so1, .bool st1, .int .i64 sv1, .slice a1 pn1 c1, .bool sx1, .int .i64 sk1, .int .i64 sy1, .slice b1 fn1 d1, .int .i64 e2, .bool hl2, .string l2, .int .i64 v2, .int .i64 o2, .int .i64 p2, .bool so2, .bool st2, .int .i64 sv2, .slice a2 pn2 c2, .bool sx2, .int .i64 sk2, .int .i64 sy2, .slice b2 fn2 d2] 63) := by rw [hW]; exact heap_alloc_new _ _
  obtain ⟨m0, m1, m2, m3, m4, m5, m6, m7, m8, m9, m10, m11, m12, m13, m14, m15, m16, m17, m18, m19, m20, m21, m22, m23, m24, m25, m26, m27, m28⟩ := cells29 K0
  have hR1 := fun (zz : Nat) hz w => szReply_gen zz hz e1 hl1 l1 v1 o1 p1 so1 st1 sv1 a1 pn1 c1 sx1 sk1 sy1 b1 fn1 d1 w h1 h2 h3
  have hR2 := fun (zz : Nat) hz w => szReply_gen zz hz e2 hl2 l2 v2 o2 p2 so2 st2 sv2 a2 pn2 c2 sx2 sk2 sy2 b2 fn2 d2 w h4 h5 h6
  unfold maxLen at *
  clear hW
  by_cases g0 : s.size ≤ 1048576
  · obtain ⟨zz, hz⟩ : ∃ zz : Nat, (1048576 : Int) - (s.size : Int) = (zz : Int) := ⟨1048576 - s.size, by omega⟩
    have hzl : zz + s.size = 1048576 := by omega
    have hR1 := fun w => hR1 zz (by omega) w
    rw [← hz] at hR1
    have g00 : ¬ ((1048576 : Int) - (s.size : Int) < 0) := by omega
    by_cases g1 : l1.size + pn1 + fn1 ≤ zz
    · rw [if_pos g1] at hR1
      obtain ⟨zy, hy⟩ : ∃ zy : Nat, (1048576 : Int) - (s.size : Int) - (l1.size : Int) - (pn1 : Int) - (fn1 : Int) = (zy : Int) := ⟨zz - (l1.size + pn1 + fn1), by omega⟩
      rw [hy] at hR1
      have hR2 := fun w => hR2 zy (by omega) w
      have g11 : ¬ ((zy : Int) < 0) := by omega
      have hyl : zy + (l1.size + pn1 + fn1) = zz := by omega
      by_cases g2 : l2.size + pn2 + fn2 ≤ zy
      · rw [if_pos g2] at hR2
        obtain ⟨zx, hx⟩ : ∃ zx : Nat, (zy : Int) - (l2.size : Int) - (pn2 : Int) - (fn2 : Int) = (zx : Int) := ⟨zy - (l2.size + pn2 + fn2), by omega⟩
        rw [hx] at hR2
        have g22 : ¬ ((zx : Int) < 0) := by omega
        have hfin : s.size + (l1.size + pn1 + fn1) + (l2.size + pn2 + fn2) ≤ 1048576 := by omega
        have HF : Hid (s.size + (l1.size + pn1 + fn1) + (l2.size + pn2 + fn2) ≤ 1048576) := hfin
        clear hx hy hz hzl hyl g1 g2 hfin
        go_enter Tryz.func17, Tryz.ntmps17
        go_upto_region 1 with fail
        rw [HW.out]
        go_wp2_with fail
        refine (hR1 _).mono ?_
        rintro x w1 ⟨rfl, hb1⟩
        clear m0 m1 m2 m3 m4 m5 m6 m7 m8 m9 m10 m11 m12 m13 m14 m15 m16 m17 m18 m19 m20 m21 m22 m23 m24 m25 m26 m27 m28 hR1
        obtain ⟨m0, m1, m2, m3, m4, m5, m6, m7, m8, m9, m10, m11, m12, m13, m14, m15, m16, m17, m18, m19, m20, m21, m22, m23, m24, m25, m26, m27, m28⟩ := cells29 ((hb1.block _ (Array.getElem?_eq_some_iff.1 K0).1).trans K0)
        go_wp2_with fail
        refine (hR2 _).mono ?_
        rintro x w2 ⟨rfl, hb2⟩
        have hBB := below_after_of hB (below_after_of hb1 hb2)
        clear m0 m1 m2 m3 m4 m5 m6 m7 m8 m9 m10 m11 m12 m13 m14 m15 m16 m17 m18 m19 m20 m21 m22 m23 m24 m25 m26 m27 m28 hR2
        go_wp2
        go_ret
        exact ⟨_, rfl, Or.inr HF.out, hBB⟩
      · rw [if_neg g2] at hR2
        clear hy hz hzl hyl g1 g2
        go_enter Tryz.func17, Tryz.ntmps17
        go_upto_region 1 with fail
        rw [HW.out]
        go_wp2_with fail
        refine (hR1 _).mono ?_
        rintro x w1 ⟨rfl, hb1⟩
        clear m0 m1 m2 m3 m4 m5 m6 m7 m8 m9 m10 m11 m12 m13 m14 m15 m16 m17 m18 m19 m20 m21 m22 m23 m24 m25 m26 m27 m28 hR1
        obtain ⟨m0, m1, m2, m3, m4, m5, m6, m7, m8, m9, m10, m11, m12, m13, m14, m15, m16, m17, m18, m19, m20, m21, m22, m23, m24, m25, m26, m27, m28⟩ := cells29 ((hb1.block _ (Array.getElem?_eq_some_iff.1 K0).1).trans K0)
        go_wp2_with fail
        refine (hR2 _).mono ?_
        rintro x w2 ⟨rfl, hb2⟩
        have hBB := below_after_of hB (below_after_of hb1 hb2)
        clear m0 m1 m2 m3 m4 m5 m6 m7 m8 m9 m10 m11 m12 m13 m14 m15 m16 m17 m18 m19 m20 m21 m22 m23 m24 m25 m26 m27 m28 hR2
        go_wp2
        go_ret
        exact ⟨_, rfl, Or.inl (by decide), hBB⟩
    · rw [if_neg g1] at hR1
      clear hR2 hz hzl g1
      go_enter Tryz.func17, Tryz.ntmps17
      go_upto_region 1 with fail
      rw [HW.out]
      go_wp2_with fail
      refine (hR1 _).mono ?_
      rintro x w1 ⟨rfl, hb1⟩
      have hBB := below_after_of hB hb1
      clear m0 m1 m2 m3 m4 m5 m6 m7 m8 m9 m10 m11 m12 m13 m14 m15 m16 m17 m18 m19 m20 m21 m22 m23 m24 m25 m26 m27 m28 hR1
      go_wp2
      go_ret
      exact ⟨_, rfl, Or.inl (by decide), hBB⟩
  · have g00 : (1048576 : Int) - (s.size : Int) < 0 := by omega
    clear hR1 hR2
    go_enter Tryz.func17, Tryz.ntmps17
    go_upto_region 1 with fail
    rw [HW.out]
    go_wp2
    go_ret
    exact ⟨_, rfl, Or.inl (by decide), hB⟩
theorem strS (x : ByteArray) : (x.toList != x.toList) = false := by simp
set_option maxRecDepth 100000 in
set_option maxHeartbeats 4000000 in
theorem eqSample_same (s : ByteArray) (e1 : Int) (hl1 : Bool) (l1 : ByteArray) (v1 o1 p1 : Int) (so1 st1 : Bool) (sv1 : Int) (ps1 : List Int) (sx1 : Bool) (sk1 sy1 : Int) (m1 : Prl) (e2 : Int) (hl2 : Bool) (l2 : ByteArray) (v2 o2 p2 : Int) (so2 st2 : Bool) (sv2 : Int) (ps2 : List Int) (sx2 : Bool) (sk2 sy2 : Int) (m2 : Prl) (a1 b1 a2 b2 a3 b3 a4 b4 : Option Addr) (c1 d1 c2 d2 c3 d3 c4 d4 : Nat) (w : World) (I1 : Ints .i64 w (.slice a1 ps1.length c1) ps1) (P1 : Prs w (.slice b1 m1.length d1) m1) (I2 : Ints .i64 w (.slice a2 ps2.length c2) ps2) (P2 : Prs w (.slice b2 m2.length d2) m2) (I3 : Ints .i64 w (.slice a3 ps1.length c3) ps1) (P3 : Prs w (.slice b3 m1.length d3) m1) (I4 : Ints .i64 w (.slice a4 ps2.length c4) ps2) (P4 : Prs w (.slice b4 m2.length d4) m2) (hp1 : ps1.length ≤ 1048576) (hm1 : m1.length ≤ 1048576) (hp2 : ps2.length ≤ 1048576) (hm2 : m2.length ≤ 1048576) :
    Calls Tryz.prog 21 #[.agg #[.string s, .int .i64 e1, .bool hl1, .string l1, .int .i64 v1, .int .i64 o1, .int .i64 p1, .bool so1, .bool st1, .int .i64 sv1, .slice a1 ps1.length c1, .bool sx1, .int .i64 sk1, .int .i64 sy1, .slice b1 m1.length d1, .int .i64 e2, .bool hl2, .string l2, .int .i64 v2, .int .i64 o2, .int .i64 p2, .bool so2, .bool st2, .int .i64 sv2, .slice a2 ps2.length c2, .bool sx2, .int .i64 sk2, .int .i64 sy2, .slice b2 m2.length d2], .agg #[.string s, .int .i64 e1, .bool hl1, .string l1, .int .i64 v1, .int .i64 o1, .int .i64 p1, .bool so1, .bool st1, .int .i64 sv1, .slice a3 ps1.length c3, .bool sx1, .int .i64 sk1, .int .i64 sy1, .slice b3 m1.length d3, .int .i64 e2, .bool hl2, .string l2, .int .i64 v2, .int .i64 o2, .int .i64 p2, .bool so2, .bool st2, .int .i64 sv2, .slice a4 ps2.length c4, .bool sx2, .int .i64 sk2, .int .i64 sy2, .slice b4 m2.length d4]] w fun x w' => x = .returned (.bool true) ∧ Below w.heap.size w w' := by
  have hE1 := fun w' (hb : Below w.heap.size w w') => eqReply_same e1 hl1 l1 v1 o1 p1 so1 st1 sv1 _ _ ps1 sx1 sk1 sy1 _ _ m1 w' (I1.below hb) (I3.below hb) (P1.below hb) (P3.below hb) (by omega) (by omega)
  have hE2 := fun w' (hb : Below w.heap.size w w') => eqReply_same e2 hl2 l2 v2 o2 p2 so2 st2 sv2 _ _ ps2 sx2 sk2 sy2 _ _ m2 w' (I2.below hb) (I4.below hb) (P2.below hb) (P4.below hb) (by omega) (by omega)
  unfold rpV at hE1 hE2
  clear I1 P1 I2 P2 I3 P3 I4 P4 hp1 hm1 hp2 hm2
  generalize ps1.length = pn1 at *
  generalize ps2.length = pn2 at *
  generalize m1.length = fn1 at *
  generalize m2.length = fn2 at *
  have hss := strS s
  obtain ⟨W, hW⟩ : ∃ W, W = (w.alloc (.cells #[.string s, .int .i64 e1, .bool hl1, .string l1, .int .i64 v1, .int .i64 o1, .int .i64 p1, .bool so1, .bool st1, .int .i64 sv1, .slice a1 pn1 c1, .bool sx1, .int .i64 sk1, .int .i64 sy1, .slice b1 fn1 d1, .int .i64 e2, .bool hl2, .string l2, .int .i64 v2, .int .i64 o2, .int .i64 p2, .bool so2, .bool st2, .int .i64 sv2, .slice a2 pn2 c2, .bool sx2, .int .i64 sk2, .int .i64 sy2, .slice b2 fn2 d2] 67)).alloc (.cells #[.string s, .int .i64 e1, .bool hl1, .string l1, .int .i64 v1, .int .i64 o1, .int .i64 p1, .bool so1, .bool st1, .int .i64 sv1, .slice a3 pn1 c3, .bool sx1, .int .i64 sk1, .int .i64 sy1, .slice b3 fn1 d3, .int .i64 e2, .bool hl2, .string l2, .int .i64 v2, .int .i64 o2, .int .i64 p2, .bool so2, .bool st2, .int .i64 sv2, .slice a4 pn2 c4, .bool sx2, .int .i64 sk2, .int .i64 sy2, .slice b4 fn2 d4] 67) := ⟨_, rfl⟩
  have HW : Hid ((w.alloc (.cells #[.string s, .int .i64 e1, .bool hl1, .string l1, .int .i64 v1, .int .i64 o1, .int .i64 p1, .bool so1, .bool st1, .int .i64 sv1, .slice a1 pn1 c1, .bool sx1, .int .i64 sk1, .int .i64 sy1, .slice b1 fn1 d1, .int .i64 e2, .bool hl2, .string l2, .int .i64 v2, .int .i64 o2, .int .i64 p2, .bool so2, .bool st2, .int .i64 sv2, .slice a2 pn2 c2, .bool sx2, .int .i64 sk2, .int .i64 sy2, .slice b2 fn2 d2] 67)).alloc (.cells #[.string s, .int .i64 e1, .bool hl1, .string l1, .int .i64 v1, .int .i64 o1, .int .i64 p1, .bool so1, .bool st1, .int .i64 sv1, .slice a3 pn1 c3, .bool sx1, .int .i64 sk1, .int .i64 sy1, .slice b3 fn1 d3, .int .i64 e2, .bool hl2, .string l2, .int .i64 v2, .int .i64 o2, .int .i64 p2, .bool so2, .bool st2, .int .i64 sv2, .slice a4 pn2 c4, .bool sx2, .int .i64 sk2, .int .i64 sy2, .slice b4 fn2 d4] 67) = W) := hW.symm
  have hB : Below w.heap.size w W := by rw [hW]; exact two_new _ _
  have B0 : Bx2 W w.heap.size (.cells #[.string s, .int .i64 e1, .bool hl1, .string l1, .int .i64 v1, .int .i64 o1, .int .i64 p1, .bool so1, .bool st1, .int .i64 sv1, .slice a1 pn1 c1, .bool sx1, .int .i64 sk1, .int .i64 sy1, .slice b1 fn1 d1, .int .i64 e2, .bool hl2, .string l2, .int .i64 v2, .int .i64 o2, .int .i64 p2, .bool so2, .bool st2, .int .i64 sv2, .slice a2 pn2 c2, .bool sx2, .int .i64 sk2, .int .i64 sy2, .slice b2 fn2 d2] 67) (.cells #[.string s, .int .i64 e1, .bool hl1, .string l1, .int .i64 v1, .int .i64 o1, .int .i64 p1, .bool so1, .bool st1, .int .i64 sv1, .slice a3 pn1 c3, .bool sx1, .int .i64 sk1, .int .i64 sy1, .slice b3 fn1 d3, .int .i64 e2, .bool hl2, .string l2, .int .i64 v2, .int .i64 o2, .int .i64 p2, .bool so2, .bool st2, .int .i64 sv2, .slice a4 pn2 c4, .bool sx2, .int .i64 sk2, .int .i64 sy2, .slice b4 fn2 d4] 67) := by rw [hW]; exact Bx2.new w _ _
  obtain ⟨m0, m1, m2, m3, m4, m5, m6, m7, m8, m9, m10, m11, m12, m13, m14, m15, m16, m17, m18, m19, m20, m21, m22, m23, m24, m25, m26, m27, m28⟩ := cells29 B0.b0
  obtain ⟨n0, n1, n2, n3, n4, n5, n6, n7, n8, n9, n10, n11, n12, n13, n14, n15, n16, n17, n18, n19, n20, n21, n22, n23, n24, n25, n26, n27, n28⟩ := cells29 B0.b1
  have HB0 : Hid (Bx2 W w.heap.size (.cells #[.string s, .int .i64 e1, .bool hl1, .string l1, .int .i64 v1, .int .i64 o1, .int .i64 p1, .bool so1, .bool st1, .int .i64 sv1, .slice a1 pn1 c1, .bool sx1, .int .i64 sk1, .int .i64 sy1, .slice b1 fn1 d1, .int .i64 e2, .bool hl2, .string l2, .int .i64 v2, .int .i64 o2, .int .i64 p2, .bool so2, .bool st2, .int .i64 sv2, .slice a2 pn2 c2, .bool sx2, .int .i64 sk2, .int .i64 sy2, .slice b2 fn2 d2] 67) (.cells #[.string s, .int .i64 e1, .bool hl1, .string l1, .int .i64 v1, .int .i64 o1, .int .i64 p1, .bool so1, .bool st1, .int .i64 sv1, .slice a3 pn1 c3, .bool sx1, .int .i64 sk1, .int .i64 sy1, .slice b3 fn1 d3, .int .i64 e2, .bool hl2, .string l2, .int .i64 v2, .int .i64 o2, .int .i64 p2, .bool so2, .bool st2, .int .i64 sv2, .slice a4 pn2 c4, .bool sx2, .int .i64 sk2, .int .i64 sy2, .slice b4 fn2 d4] 67)) := B0
  clear hW B0
  go_enter Tryz.func21, Tryz.ntmps21
  go_upto_region 1 with fail
  rw [HW.out]
  go_wp2_with fail
  refine (hE1 _ hB).mono ?_
  rintro x w1 ⟨rfl, hb1⟩
  clear m0 m1 m2 m3 m4 m5 m6 m7 m8 m9 m10 m11 m12 m13 m14 m15 m16 m17 m18 m19 m20 m21 m22 m23 m24 m25 m26 m27 m28 n0 n1 n2 n3 n4 n5 n6 n7 n8 n9 n10 n11 n12 n13 n14 n15 n16 n17 n18 n19 n20 n21 n22 n23 n24 n25 n26 n27 n28 hE1
  obtain ⟨m0, m1, m2, m3, m4, m5, m6, m7, m8, m9, m10, m11, m12, m13, m14, m15, m16, m17, m18, m19, m20, m21, m22, m23, m24, m25, m26, m27, m28⟩ := cells29 (HB0.out.below hb1).b0
  obtain ⟨n0, n1, n2, n3, n4, n5, n6, n7, n8, n9, n10, n11, n12, n13, n14, n15, n16, n17, n18, n19, n20, n21, n22, n23, n24, n25, n26, n27, n28⟩ := cells29 (HB0.out.below hb1).b1
  go_wp2_with fail
  refine (hE2 _ (below_after_of hB hb1)).mono ?_
  rintro x w2 ⟨rfl, hb2⟩
  have hBB := below_after_of hB (below_after_of hb1 hb2)
  clear m0 m1 m2 m3 m4 m5 m6 m7 m8 m9 m10 m11 m12 m13 m14 m15 m16 m17 m18 m19 m20 m21 m22 m23 m24 m25 m26 m27 m28 n0 n1 n2 n3 n4 n5 n6 n7 n8 n9 n10 n11 n12 n13 n14 n15 n16 n17 n18 n19 n20 n21 n22 n23 n24 n25 n26 n27 n28 hE2
  go_wp2
  go_ret
  exact ⟨rfl, hBB⟩
end U
end Go.Proofs.YtdbbmclobmigdaaGreat

/- Samples as the laws hold them, turned into the program's. -/
namespace Go.Proofs.YtdbbmclobmigdaaGreat
open Go.RowKit
namespace U
/-- Three blocks, one behind the other. -/
structure Bx3 (w : World) (g : Nat) (o0 o1 o2 : Obj) : Prop where
  b0 : w.heap[g]? = some o0
  b1 : w.heap[g + 1]? = some o1
  b2 : w.heap[g + 1 + 1]? = some o2
theorem Bx3.new (w : World) (o0 o1 o2 : Obj) : Bx3 (((w.alloc o0).alloc o1).alloc o2) w.heap.size o0 o1 o2 := by
  obtain ⟨h0, h1⟩ := Bx2.new w o0 o1
  have k2 := heap_alloc_new ((w.alloc o0).alloc o1) o2
  rw [World.size_alloc, World.size_alloc] at k2
  exact ⟨((one_new (w := (w.alloc o0).alloc o1) o2).block _ (by simp; omega)).trans h0, ((one_new (w := (w.alloc o0).alloc o1) o2).block _ (by simp)).trans h1, k2⟩
/-- Rows of one's own that are read. -/
structure RowsM (w : World) (B : Nat) (a : Option Addr) (n c : Nat) (xs : List Int) (b : Option Addr) (m d : Nat) (l : Prl) : Prop where
  o1 : w.ownsRow B 2 1 (.slice a n c) n (xs.map (Value.int .i64))
  o3 : w.ownsRow B 198 2 (.slice b m d) m ((fl l).map (Value.int .i64))
theorem RowsM.below {w w' : World} {B : Nat} {a : Option Addr} {n c : Nat} {xs : List Int} {b : Option Addr} {m d : Nat} {l : Prl} (h : RowsM w B a n c xs b m d l) (hb : Below w.heap.size w w') : RowsM w' B a n c xs b m d l := ⟨own_below h.o1 hb, own_below h.o3 hb⟩
theorem RowsM.grown {w w' : World} {B g : Nat} {a : Option Addr} {n c : Nat} {xs : List Int} {b : Option Addr} {m d : Nat} {l : Prl} (h : RowsM w B a n c xs b m d l) (hg : w.grownBy w' (some g)) (hlt : g < B) : RowsM w' B a n c xs b m d l :=
  ⟨own_grown h.o1 hg (Or.inr (fun e => by have := (h.o1.lt _ e).1; omega)), own_grown h.o3 hg (Or.inr (fun e => by have := (h.o3.lt _ e).1; omega))⟩
theorem RowsM.down {w : World} {B B' : Nat} {a : Option Addr} {n c : Nat} {xs : List Int} {b : Option Addr} {m d : Nat} {l : Prl} (h : RowsM w B a n c xs b m d l) (hB : B' ≤ B) : RowsM w B' a n c xs b m d l := ⟨own_mono h.o1 hB, own_mono h.o3 hB⟩
/-- A part of a block; what may be written; what stays. -/
theorem range_of {w : World} {b : Nat} {cs : List Value} {t : TypeId} (h : w.heap[b]? = some (.cells cs.toArray t)) (pre mid post : List Value) (hl : cs = pre ++ (mid ++ post)) : w.rangeAt b pre.length mid := by
  subst hl
  intro j v hv
  have hj := (List.getElem?_eq_some_iff.1 hv).1
  unfold World.cell?
  rw [h]
  simp [List.getElem?_append_right, List.getElem?_append_left hj, hv]
theorem there_of {w : World} {b : Nat} {cs : Array Value} {t : TypeId} (h : w.heap[b]? = some (.cells cs t)) (o n : Nat) (hn : o + n ≤ cs.size) : w.there b o n := by
  intro j hj
  unfold World.cell? World.frozen?
  rw [h]
  have : o + j < cs.size := by omega
  simp [this]
theorem range_same {A B : World} {b o : Nat} {cs : List Value} (h : A.rangeAt b o cs) (he : B.heap[b]? = A.heap[b]?) : B.rangeAt b o cs := by
  intro j v hv
  have := h j v hv
  unfold World.cell? at this ⊢
  dsimp only at this ⊢
  rw [he]; exact this
theorem there_same {A B : World} {b o n : Nat} (h : A.there b o n) (he : B.heap[b]? = A.heap[b]?) : B.there b o n := by
  intro j hj
  have := h j hj
  unfold World.cell? World.frozen? at this ⊢
  dsimp only at this ⊢
  rw [he]; exact this
theorem range_app {w : World} {b o : Nat} {xs ys : List Value} (h : w.rangeAt b o xs) (k : w.rangeAt b (o + xs.length) ys) : w.rangeAt b o (xs ++ ys) := by
  intro j v hv
  by_cases hj : j < xs.length
  · rw [List.getElem?_append_left hj] at hv
    exact h j v hv
  · rw [List.getElem?_append_right (by omega)] at hv
    have := k (j - xs.length) v hv
    rw [show o + xs.length + (j - xs.length) = o + j by omega] at this
    exact this
theorem grown_cells (b : Nat) : ∀ (vs : List Value) (o : Nat) (w : World), w.grownBy (w.setCells b o vs) (some b)
  | [], _, _ => World.grownBy.refl _ _
  | v :: r, o, w => (grown_setM w b o v).trans (grown_cells b r (o + 1) _)
set_option maxRecDepth 100000 in
set_option maxHeartbeats 4000000 in
theorem toSample_gen (s : ByteArray) (e1 : Int) (hl1 : Bool) (l1 : ByteArray) (v1 o1 p1 : Int) (so1 st1 : Bool) (sv1 : Int) (a1 : Option Addr) (pn1 c1 : Nat) (ps1 : List Int) (sx1 : Bool) (sk1 sy1 : Int) (b1 : Option Addr) (fn1 d1 : Nat) (m1 : Prl) (e2 : Int) (hl2 : Bool) (l2 : ByteArray) (v2 o2 p2 : Int) (so2 st2 : Bool) (sv2 : Int) (a2 : Option Addr) (pn2 c2 : Nat) (ps2 : List Int) (sx2 : Bool) (sk2 sy2 : Int) (b2 : Option Addr) (fn2 d2 : Nat) (m2 : Prl) (w : World) (HT1 : ∀ w', Below w.heap.size w w' → Calls Tryz.prog 10 #[.agg #[.int .i64 e1, .bool hl1, .string l1, .int .i64 v1, .int .i64 o1, .int .i64 p1, .bool so1, .bool st1, .int .i64 sv1, .slice a1 pn1 c1, .bool sx1, .int .i64 sk1, .int .i64 sy1, .slice b1 fn1 d1]] w' fun x w'' => ∃ a c b d, x = .returned (.agg #[.int .i64 e1, .bool hl1, .string l1, .int .i64 v1, .int .i64 o1, .int .i64 p1, .bool so1, .bool st1, .int .i64 sv1, .slice a pn1 c, .bool sx1, .int .i64 sk1, .int .i64 sy1, .slice b fn1 d]) ∧ Below w'.heap.size w' w'' ∧ RowsM w'' w'.heap.size a pn1 c ps1 b fn1 d m1) (HT2 : ∀ w', Below w.heap.size w w' → Calls Tryz.prog 10 #[.agg #[.int .i64 e2, .bool hl2, .string l2, .int .i64 v2, .int .i64 o2, .int .i64 p2, .bool so2, .bool st2, .int .i64 sv2, .slice a2 pn2 c2, .bool sx2, .int .i64 sk2, .int .i64 sy2, .slice b2 fn2 d2]] w' fun x w'' => ∃ a c b d, x = .returned (.agg #[.int .i64 e2, .bool hl2, .string l2, .int .i64 v2, .int .i64 o2, .int .i64 p2, .bool so2, .bool st2, .int .i64 sv2, .slice a pn2 c, .bool sx2, .int .i64 sk2, .int .i64 sy2, .slice b fn2 d]) ∧ Below w'.heap.size w' w'' ∧ RowsM w'' w'.heap.size a pn2 c ps2 b fn2 d m2) :
    Calls Tryz.prog 19 #[.agg #[.string s, .int .i64 e1, .bool hl1, .string l1, .int .i64 v1, .int .i64 o1, .int .i64 p1, .bool so1, .bool st1, .int .i64 sv1, .slice a1 pn1 c1, .bool sx1, .int .i64 sk1, .int .i64 sy1, .slice b1 fn1 d1, .int .i64 e2, .bool hl2, .string l2, .int .i64 v2, .int .i64 o2, .int .i64 p2, .bool so2, .bool st2, .int .i64 sv2, .slice a2 pn2 c2, .bool sx2, .int .i64 sk2, .int .i64 sy2, .slice b2 fn2 d2]] w fun x w' => ∃ a3 c3 b3 d3 a4 c4 b4 d4, x = .returned (.agg #[.string s, .int .i64 e1, .bool hl1, .string l1, .int .i64 v1, .int .i64 o1, .int .i64 p1, .bool so1, .bool st1, .int .i64 sv1, .slice a3 pn1 c3, .bool sx1, .int .i64 sk1, .int .i64 sy1, .slice b3 fn1 d3, .int .i64 e2, .bool hl2, .string l2, .int .i64 v2, .int .i64 o2, .int .i64 p2, .bool so2, .bool st2, .int .i64 sv2, .slice a4 pn2 c4, .bool sx2, .int .i64 sk2, .int .i64 sy2, .slice b4 fn2 d4]) ∧ Below w.heap.size w w' ∧ RowsM w' w.heap.size a3 pn1 c3 ps1 b3 fn1 d3 m1 ∧ RowsM w' w.heap.size a4 pn2 c4 ps2 b4 fn2 d4 m2 := by
  obtain ⟨W, hW⟩ : ∃ W, W = ((w.alloc (.cells #[.string s, .int .i64 e1, .bool hl1, .string l1, .int .i64 v1, .int .i64 o1, .int .i64 p1, .bool so1, .bool st1, .int .i64 sv1, .slice a1 pn1 c1, .bool sx1, .int .i64 sk1, .int .i64 sy1, .slice b1 fn1 d1, .int .i64 e2, .bool hl2, .string l2, .int .i64 v2, .int .i64 o2, .int .i64 p2, .bool so2, .bool st2, .int .i64 sv2, .slice a2 pn2 c2, .bool sx2, .int .i64 sk2, .int .i64 sy2, .slice b2 fn2 d2] 63)).alloc (.cells #[.string ⟨#[]⟩, .int .i64 0, .bool false, .string ⟨#[]⟩, .int .i64 0, .int .i64 0, .int .i64 0, .bool false, .bool false, .int .i64 0, .slice none 0 0, .bool false, .int .i64 0, .int .i64 0, .slice none 0 0, .int .i64 0, .bool false, .string ⟨#[]⟩, .int .i64 0, .int .i64 0, .int .i64 0, .bool false, .bool false, .int .i64 0, .slice none 0 0, .bool false, .int .i64 0, .int .i64 0, .slice none 0 0] 67)).alloc (.cells #[.string s, .int .i64 0, .bool false, .string ⟨#[]⟩, .int .i64 0, .int .i64 0, .int .i64 0, .bool false, .bool false, .int .i64 0, .slice none 0 0, .bool false, .int .i64 0, .int .i64 0, .slice none 0 0, .int .i64 0, .bool false, .string ⟨#[]⟩, .int .i64 0, .int .i64 0, .int .i64 0, .bool false, .bool false, .int .i64 0, .slice none 0 0, .bool false, .int .i64 0, .int .i64 0, .slice none 0 0] 67) := ⟨_, rfl⟩
  have HW : Hid (((w.alloc (.cells #[.string s, .int .i64 e1, .bool hl1, .string l1, .int .i64 v1, .int .i64 o1, .int .i64 p1, .bool so1, .bool st1, .int .i64 sv1, .slice a1 pn1 c1, .bool sx1, .int .i64 sk1, .int .i64 sy1, .slice b1 fn1 d1, .int .i64 e2, .bool hl2, .string l2, .int .i64 v2, .int .i64 o2, .int .i64 p2, .bool so2, .bool st2, .int .i64 sv2, .slice a2 pn2 c2, .bool sx2, .int .i64 sk2, .int .i64 sy2, .slice b2 fn2 d2] 63)).alloc (.cells #[.string ⟨#[]⟩, .int .i64 0, .bool false, .string ⟨#[]⟩, .int .i64 0, .int .i64 0, .int .i64 0, .bool false, .bool false, .int .i64 0, .slice none 0 0, .bool false, .int .i64 0, .int .i64 0, .slice none 0 0, .int .i64 0, .bool false, .string ⟨#[]⟩, .int .i64 0, .int .i64 0, .int .i64 0, .bool false, .bool false, .int .i64 0, .slice none 0 0, .bool false, .int .i64 0, .int .i64 0, .slice none 0 0] 67)).alloc (.cells #[.string s, .int .i64 0, .bool false, .string ⟨#[]⟩, .int .i64 0, .int .i64 0, .int .i64 0, .bool false, .bool false, .int .i64 0, .slice none 0 0, .bool false, .int .i64 0, .int .i64 0, .slice none 0 0, .int .i64 0, .bool false, .string ⟨#[]⟩, .int .i64 0, .int .i64 0, .int .i64 0, .bool false, .bool false, .int .i64 0, .slice none 0 0, .bool false, .int .i64 0, .int .i64 0, .slice none 0 0] 67) = W) := hW.symm
  have hB : Below w.heap.size w W := by rw [hW]; exact three_new _ _ _
  have hzW : W.heap.size = w.heap.size + 3 := by rw [hW]; simp
  have B0 : Bx3 W w.heap.size (.cells #[.string s, .int .i64 e1, .bool hl1, .string l1, .int .i64 v1, .int .i64 o1, .int .i64 p1, .bool so1, .bool st1, .int .i64 sv1, .slice a1 pn1 c1, .bool sx1, .int .i64 sk1, .int .i64 sy1, .slice b1 fn1 d1, .int .i64 e2, .bool hl2, .string l2, .int .i64 v2, .int .i64 o2, .int .i64 p2, .bool so2, .bool st2, .int .i64 sv2, .slice a2 pn2 c2, .bool sx2, .int .i64 sk2, .int .i64 sy2, .slice b2 fn2 d2] 63) (.cells #[.string ⟨#[]⟩, .int .i64 0, .bool false, .string ⟨#[]⟩, .int .i64 0, .int .i64 0, .int .i64 0, .bool false, .bool false, .int .i64 0, .slice none 0 0, .bool false, .int .i64 0, .int .i64 0, .slice none 0 0, .int .i64 0, .bool false, .string ⟨#[]⟩, .int .i64 0, .int .i64 0, .int .i64 0, .bool false, .bool false, .int .i64 0, .slice none 0 0, .bool false, .int .i64 0, .int .i64 0, .slice none 0 0] 67) (.cells #[.string s, .int .i64 0, .bool false, .string ⟨#[]⟩, .int .i64 0, .int .i64 0, .int .i64 0, .bool false, .bool false, .int .i64 0, .slice none 0 0, .bool false, .int .i64 0, .int .i64 0, .slice none 0 0, .int .i64 0, .bool false, .string ⟨#[]⟩, .int .i64 0, .int .i64 0, .int .i64 0, .bool false, .bool false, .int .i64 0, .slice none 0 0, .bool false, .int .i64 0, .int .i64 0, .slice none 0 0] 67) := by rw [hW]; exact Bx3.new w _ _ _
  have k1 : Hid (W.rangeAt w.heap.size 1 [.int .i64 e1, .bool hl1, .string l1, .int .i64 v1, .int .i64 o1, .int .i64 p1, .bool so1, .bool st1, .int .i64 sv1, .slice a1 pn1 c1, .bool sx1, .int .i64 sk1, .int .i64 sy1, .slice b1 fn1 d1]) := range_of B0.b0 [.string s] _ [.int .i64 e2, .bool hl2, .string l2, .int .i64 v2, .int .i64 o2, .int .i64 p2, .bool so2, .bool st2, .int .i64 sv2, .slice a2 pn2 c2, .bool sx2, .int .i64 sk2, .int .i64 sy2, .slice b2 fn2 d2] rfl
  have k2 : Hid (W.rangeAt w.heap.size 15 [.int .i64 e2, .bool hl2, .string l2, .int .i64 v2, .int .i64 o2, .int .i64 p2, .bool so2, .bool st2, .int .i64 sv2, .slice a2 pn2 c2, .bool sx2, .int .i64 sk2, .int .i64 sy2, .slice b2 fn2 d2]) := range_of B0.b0 [.string s, .int .i64 e1, .bool hl1, .string l1, .int .i64 v1, .int .i64 o1, .int .i64 p1, .bool so1, .bool st1, .int .i64 sv1, .slice a1 pn1 c1, .bool sx1, .int .i64 sk1, .int .i64 sy1, .slice b1 fn1 d1] _ [] rfl
  have k0 : Hid (W.rangeAt (w.heap.size + 1 + 1) 0 [.string s]) := range_of B0.b2 [] _ [.int .i64 0, .bool false, .string ⟨#[]⟩, .int .i64 0, .int .i64 0, .int .i64 0, .bool false, .bool false, .int .i64 0, .slice none 0 0, .bool false, .int .i64 0, .int .i64 0, .slice none 0 0, .int .i64 0, .bool false, .string ⟨#[]⟩, .int .i64 0, .int .i64 0, .int .i64 0, .bool false, .bool false, .int .i64 0, .slice none 0 0, .bool false, .int .i64 0, .int .i64 0, .slice none 0 0] rfl
  have t2 : Hid (W.there (w.heap.size + 1 + 1) 0 29) := there_of B0.b2 0 29 (by simp)
  have t1 : Hid (W.there (w.heap.size + 1) 0 29) := there_of B0.b1 0 29 (by simp)
  clear hW B0
  go_enter Tryz.func19, Tryz.ntmps19
  go_upto_region 3 with fail
  rw [HW.out]
  go_wp2_with (refine wpList_load_mid rfl 35 (.tmp 7) rfl w.heap.size 1 rfl [.int .i64 e1, .bool hl1, .string l1, .int .i64 v1, .int .i64 o1, .int .i64 p1, .bool so1, .bool st1, .int .i64 sv1, .slice a1 pn1 c1, .bool sx1, .int .i64 sk1, .int .i64 sy1, .slice b1 fn1 d1] _ k1.out Tryz.underlying35 rfl (by kernel_rfl) ?_)
  refine (HT1 _ hB).mono ?_
  rintro x w1 ⟨a3, c3, b3, d3, rfl, hb1, r1⟩
  have hB1 := below_after_of hB hb1
  have hz1 := hb1.size
  have k2 : Hid (w1.rangeAt w.heap.size 15 [.int .i64 e2, .bool hl2, .string l2, .int .i64 v2, .int .i64 o2, .int .i64 p2, .bool so2, .bool st2, .int .i64 sv2, .slice a2 pn2 c2, .bool sx2, .int .i64 sk2, .int .i64 sy2, .slice b2 fn2 d2]) := range_same k2.out (hb1.block _ (by omega))
  have k0 : Hid (w1.rangeAt (w.heap.size + 1 + 1) 0 [.string s]) := range_same k0.out (hb1.block _ (by omega))
  have t2 : Hid (w1.there (w.heap.size + 1 + 1) 0 29) := there_same t2.out (hb1.block _ (by omega))
  have t1 : Hid (w1.there (w.heap.size + 1) 0 29) := there_same t1.out (hb1.block _ (by omega))
  clear HT1 hB k1 HW
  obtain ⟨V1, hV1⟩ : ∃ V1, V1 = w1.setCells (w.heap.size + 1 + 1) 1 [.int .i64 e1, .bool hl1, .string l1, .int .i64 v1, .int .i64 o1, .int .i64 p1, .bool so1, .bool st1, .int .i64 sv1, .slice a3 pn1 c3, .bool sx1, .int .i64 sk1, .int .i64 sy1, .slice b3 fn1 d3] := ⟨_, rfl⟩
  have HV1 : Hid (w1.setCells (w.heap.size + 1 + 1) 1 [.int .i64 e1, .bool hl1, .string l1, .int .i64 v1, .int .i64 o1, .int .i64 p1, .bool so1, .bool st1, .int .i64 sv1, .slice a3 pn1 c3, .bool sx1, .int .i64 sk1, .int .i64 sy1, .slice b3 fn1 d3] = V1) := hV1.symm
  have hth : w1.there (w.heap.size + 1 + 1) 1 (#[.int .i64 e1, .bool hl1, .string l1, .int .i64 v1, .int .i64 o1, .int .i64 p1, .bool so1, .bool st1, .int .i64 sv1, .slice a3 pn1 c3, .bool sx1, .int .i64 sk1, .int .i64 sy1, .slice b3 fn1 d3] : Array Value).size := (fun j hj => by have := t2.out (1 + j) (by simp at hj; omega); rwa [Nat.zero_add] at this)
  have hG1 : w1.grownBy V1 (some (w.heap.size + 1 + 1)) := by rw [hV1]; exact grown_cells _ _ _ _
  have k2 : Hid (V1.rangeAt w.heap.size 15 [.int .i64 e2, .bool hl2, .string l2, .int .i64 v2, .int .i64 o2, .int .i64 p2, .bool so2, .bool st2, .int .i64 sv2, .slice a2 pn2 c2, .bool sx2, .int .i64 sk2, .int .i64 sy2, .slice b2 fn2 d2]) := (by rw [hV1]; exact World.rangeAt_setCells_apart k2.out _ _ _ (Or.inl (by omega)) : V1.rangeAt w.heap.size 15 [.int .i64 e2, .bool hl2, .string l2, .int .i64 v2, .int .i64 o2, .int .i64 p2, .bool so2, .bool st2, .int .i64 sv2, .slice a2 pn2 c2, .bool sx2, .int .i64 sk2, .int .i64 sy2, .slice b2 fn2 d2])
  have k0 : Hid (V1.rangeAt (w.heap.size + 1 + 1) 0 [.string s]) := (by rw [hV1]; exact World.rangeAt_setCells_apart k0.out _ _ _ (Or.inr (Or.inl (by simp))) : V1.rangeAt (w.heap.size + 1 + 1) 0 [.string s])
  have k3 : Hid (V1.rangeAt (w.heap.size + 1 + 1) 1 [.int .i64 e1, .bool hl1, .string l1, .int .i64 v1, .int .i64 o1, .int .i64 p1, .bool so1, .bool st1, .int .i64 sv1, .slice a3 pn1 c3, .bool sx1, .int .i64 sk1, .int .i64 sy1, .slice b3 fn1 d3]) := (by rw [hV1]; exact World.rangeAt_setCells_same _ _ _ _ (fun j hj => by have := t2.out (1 + j) (by simp at hj; omega); rwa [Nat.zero_add] at this) : V1.rangeAt (w.heap.size + 1 + 1) 1 [.int .i64 e1, .bool hl1, .string l1, .int .i64 v1, .int .i64 o1, .int .i64 p1, .bool so1, .bool st1, .int .i64 sv1, .slice a3 pn1 c3, .bool sx1, .int .i64 sk1, .int .i64 sy1, .slice b3 fn1 d3])
  have t2 : Hid (V1.there (w.heap.size + 1 + 1) 0 29) := (by rw [hV1]; exact World.there_setCells t2.out _ _ _ : V1.there (w.heap.size + 1 + 1) 0 29)
  have t1 : Hid (V1.there (w.heap.size + 1) 0 29) := (by rw [hV1]; exact World.there_setCells t1.out _ _ _ : V1.there (w.heap.size + 1) 0 29)
  have rr1 := r1.grown hG1 (by omega)
  have hC1 : Below w.heap.size w V1 := hB1.grown hG1 hB1.size (fun k e => by cases e; omega)
  have hzv1 := hG1.size
  clear hV1 hG1 r1 hB1 hb1
  go_upto_region 4 with (refine wpList_store_mid rfl 52 (.tmp 10) (.tmp 9) rfl (w.heap.size + 1 + 1) 1 #[.int .i64 e1, .bool hl1, .string l1, .int .i64 v1, .int .i64 o1, .int .i64 p1, .bool so1, .bool st1, .int .i64 sv1, .slice a3 pn1 c3, .bool sx1, .int .i64 sk1, .int .i64 sy1, .slice b3 fn1 d3] rfl rfl hth (by kernel_rfl) (by simp [Value.oneCell']) ?_)
  rw [HV1.out]
  clear hth HV1
  go_wp2_with (refine wpList_load_mid rfl 35 (.tmp 11) rfl w.heap.size 15 rfl [.int .i64 e2, .bool hl2, .string l2, .int .i64 v2, .int .i64 o2, .int .i64 p2, .bool so2, .bool st2, .int .i64 sv2, .slice a2 pn2 c2, .bool sx2, .int .i64 sk2, .int .i64 sy2, .slice b2 fn2 d2] _ k2.out Tryz.underlying35 rfl (by kernel_rfl) ?_)
  refine (HT2 _ hC1).mono ?_
  rintro x w2 ⟨a4, c4, b4, d4, rfl, hb2, r2⟩
  have hB2 := below_after_of hC1 hb2
  have hz2 := hb2.size
  have k0 : Hid (w2.rangeAt (w.heap.size + 1 + 1) 0 [.string s]) := range_same k0.out (hb2.block _ (by omega))
  have k3 : Hid (w2.rangeAt (w.heap.size + 1 + 1) 1 [.int .i64 e1, .bool hl1, .string l1, .int .i64 v1, .int .i64 o1, .int .i64 p1, .bool so1, .bool st1, .int .i64 sv1, .slice a3 pn1 c3, .bool sx1, .int .i64 sk1, .int .i64 sy1, .slice b3 fn1 d3]) := range_same k3.out (hb2.block _ (by omega))
  have t2 : Hid (w2.there (w.heap.size + 1 + 1) 0 29) := there_same t2.out (hb2.block _ (by omega))
  have t1 : Hid (w2.there (w.heap.size + 1) 0 29) := there_same t1.out (hb2.block _ (by omega))
  have rr1 := rr1.below hb2
  clear HT2 hC1 k2
  obtain ⟨V2, hV2⟩ : ∃ V2, V2 = w2.setCells (w.heap.size + 1 + 1) 15 [.int .i64 e2, .bool hl2, .string l2, .int .i64 v2, .int .i64 o2, .int .i64 p2, .bool so2, .bool st2, .int .i64 sv2, .slice a4 pn2 c4, .bool sx2, .int .i64 sk2, .int .i64 sy2, .slice b4 fn2 d4] := ⟨_, rfl⟩
  have HV2 : Hid (w2.setCells (w.heap.size + 1 + 1) 15 [.int .i64 e2, .bool hl2, .string l2, .int .i64 v2, .int .i64 o2, .int .i64 p2, .bool so2, .bool st2, .int .i64 sv2, .slice a4 pn2 c4, .bool sx2, .int .i64 sk2, .int .i64 sy2, .slice b4 fn2 d4] = V2) := hV2.symm
  have hth : w2.there (w.heap.size + 1 + 1) 15 (#[.int .i64 e2, .bool hl2, .string l2, .int .i64 v2, .int .i64 o2, .int .i64 p2, .bool so2, .bool st2, .int .i64 sv2, .slice a4 pn2 c4, .bool sx2, .int .i64 sk2, .int .i64 sy2, .slice b4 fn2 d4] : Array Value).size := (fun j hj => by have := t2.out (15 + j) (by simp at hj; omega); rwa [Nat.zero_add] at this)
  have hG2 : w2.grownBy V2 (some (w.heap.size + 1 + 1)) := by rw [hV2]; exact grown_cells _ _ _ _
  have k0 : V2.rangeAt (w.heap.size + 1 + 1) 0 [.string s] := (by rw [hV2]; exact World.rangeAt_setCells_apart k0.out _ _ _ (Or.inr (Or.inl (by simp))))
  have k3 : V2.rangeAt (w.heap.size + 1 + 1) 1 [.int .i64 e1, .bool hl1, .string l1, .int .i64 v1, .int .i64 o1, .int .i64 p1, .bool so1, .bool st1, .int .i64 sv1, .slice a3 pn1 c3, .bool sx1, .int .i64 sk1, .int .i64 sy1, .slice b3 fn1 d3] := (by rw [hV2]; exact World.rangeAt_setCells_apart k3.out _ _ _ (Or.inr (Or.inl (by simp))))
  have k4 : V2.rangeAt (w.heap.size + 1 + 1) 15 [.int .i64 e2, .bool hl2, .string l2, .int .i64 v2, .int .i64 o2, .int .i64 p2, .bool so2, .bool st2, .int .i64 sv2, .slice a4 pn2 c4, .bool sx2, .int .i64 sk2, .int .i64 sy2, .slice b4 fn2 d4] := (by rw [hV2]; exact World.rangeAt_setCells_same _ _ _ _ (fun j hj => by have := t2.out (15 + j) (by simp at hj; omega); rwa [Nat.zero_add] at this))
  have k5 : Hid (V2.rangeAt (w.heap.size + 1 + 1) 0 [.string s, .int .i64 e1, .bool hl1, .string l1, .int .i64 v1, .int .i64 o1, .int .i64 p1, .bool so1, .bool st1, .int .i64 sv1, .slice a3 pn1 c3, .bool sx1, .int .i64 sk1, .int .i64 sy1, .slice b3 fn1 d3, .int .i64 e2, .bool hl2, .string l2, .int .i64 v2, .int .i64 o2, .int .i64 p2, .bool so2, .bool st2, .int .i64 sv2, .slice a4 pn2 c4, .bool sx2, .int .i64 sk2, .int .i64 sy2, .slice b4 fn2 d4]) := range_app (xs := [.string s]) k0 (range_app (xs := [.int .i64 e1, .bool hl1, .string l1, .int .i64 v1, .int .i64 o1, .int .i64 p1, .bool so1, .bool st1, .int .i64 sv1, .slice a3 pn1 c3, .bool sx1, .int .i64 sk1, .int .i64 sy1, .slice b3 fn1 d3]) k3 k4)
  have t1 : Hid (V2.there (w.heap.size + 1) 0 29) := (by rw [hV2]; exact World.there_setCells t1.out _ _ _ : V2.there (w.heap.size + 1) 0 29)
  have rr1 := rr1.grown hG2 (by omega)
  have rr2 := r2.grown hG2 (by omega)
  have hC2 : Below w.heap.size w V2 := hB2.grown hG2 hB2.size (fun k e => by cases e; omega)
  have hzv2 := hG2.size
  clear hV2 hG2 r2 hB2 hb2 k0 k3 k4 t2
  go_upto_region 5 with (refine wpList_store_mid rfl 52 (.tmp 14) (.tmp 13) rfl (w.heap.size + 1 + 1) 15 #[.int .i64 e2, .bool hl2, .string l2, .int .i64 v2, .int .i64 o2, .int .i64 p2, .bool so2, .bool st2, .int .i64 sv2, .slice a4 pn2 c4, .bool sx2, .int .i64 sk2, .int .i64 sy2, .slice b4 fn2 d4] rfl rfl hth (by kernel_rfl) (by simp [Value.oneCell']) ?_)
  rw [HV2.out]
  clear hth HV2
  obtain ⟨V3, hV3⟩ : ∃ V3, V3 = V2.setCells (w.heap.size + 1) 0 [.string s, .int .i64 e1, .bool hl1, .string l1, .int .i64 v1, .int .i64 o1, .int .i64 p1, .bool so1, .bool st1, .int .i64 sv1, .slice a3 pn1 c3, .bool sx1, .int .i64 sk1, .int .i64 sy1, .slice b3 fn1 d3, .int .i64 e2, .bool hl2, .string l2, .int .i64 v2, .int .i64 o2, .int .i64 p2, .bool so2, .bool st2, .int .i64 sv2, .slice a4 pn2 c4, .bool sx2, .int .i64 sk2, .int .i64 sy2, .slice b4 fn2 d4] := ⟨_, rfl⟩
  have HV3 : Hid (V2.setCells (w.heap.size + 1) 0 [.string s, .int .i64 e1, .bool hl1, .string l1, .int .i64 v1, .int .i64 o1, .int .i64 p1, .bool so1, .bool st1, .int .i64 sv1, .slice a3 pn1 c3, .bool sx1, .int .i64 sk1, .int .i64 sy1, .slice b3 fn1 d3, .int .i64 e2, .bool hl2, .string l2, .int .i64 v2, .int .i64 o2, .int .i64 p2, .bool so2, .bool st2, .int .i64 sv2, .slice a4 pn2 c4, .bool sx2, .int .i64 sk2, .int .i64 sy2, .slice b4 fn2 d4] = V3) := hV3.symm
  have hth : V2.there (w.heap.size + 1) 0 (#[.string s, .int .i64 e1, .bool hl1, .string l1, .int .i64 v1, .int .i64 o1, .int .i64 p1, .bool so1, .bool st1, .int .i64 sv1, .slice a3 pn1 c3, .bool sx1, .int .i64 sk1, .int .i64 sy1, .slice b3 fn1 d3, .int .i64 e2, .bool hl2, .string l2, .int .i64 v2, .int .i64 o2, .int .i64 p2, .bool so2, .bool st2, .int .i64 sv2, .slice a4 pn2 c4, .bool sx2, .int .i64 sk2, .int .i64 sy2, .slice b4 fn2 d4] : Array Value).size := t1.out
  have hG3 : V2.grownBy V3 (some (w.heap.size + 1)) := by rw [hV3]; exact grown_cells _ _ _ _
  have k6 : V3.rangeAt (w.heap.size + 1) 0 [.string s, .int .i64 e1, .bool hl1, .string l1, .int .i64 v1, .int .i64 o1, .int .i64 p1, .bool so1, .bool st1, .int .i64 sv1, .slice a3 pn1 c3, .bool sx1, .int .i64 sk1, .int .i64 sy1, .slice b3 fn1 d3, .int .i64 e2, .bool hl2, .string l2, .int .i64 v2, .int .i64 o2, .int .i64 p2, .bool so2, .bool st2, .int .i64 sv2, .slice a4 pn2 c4, .bool sx2, .int .i64 sk2, .int .i64 sy2, .slice b4 fn2 d4] := (by rw [hV3]; exact World.rangeAt_setCells_same _ _ _ _ t1.out)
  have rr1 := (rr1.grown hG3 (by omega)).down (show w.heap.size ≤ W.heap.size by omega)
  have rr2 := (rr2.grown hG3 (by omega)).down (show w.heap.size ≤ V1.heap.size by omega)
  have hC3 : Below w.heap.size w V3 := hC2.grown hG3 hC2.size (fun k e => by cases e; omega)
  clear hV3 hG3 hC2
  have HV4 : V2.setCells (w.heap.size + 1) 0 (#[.string s, .int .i64 e1, .bool hl1, .string l1, .int .i64 v1, .int .i64 o1, .int .i64 p1, .bool so1, .bool st1, .int .i64 sv1, .slice a3 pn1 c3, .bool sx1, .int .i64 sk1, .int .i64 sy1, .slice b3 fn1 d3, .int .i64 e2, .bool hl2, .string l2, .int .i64 v2, .int .i64 o2, .int .i64 p2, .bool so2, .bool st2, .int .i64 sv2, .slice a4 pn2 c4, .bool sx2, .int .i64 sk2, .int .i64 sy2, .slice b4 fn2 d4] : Array Value).toList = V3 := HV3.out
  clear HV3
  go_wp2_with (refine wpList_load_mid rfl 67 (.tmp 3) rfl (w.heap.size + 1 + 1) 0 rfl [.string s, .int .i64 e1, .bool hl1, .string l1, .int .i64 v1, .int .i64 o1, .int .i64 p1, .bool so1, .bool st1, .int .i64 sv1, .slice a3 pn1 c3, .bool sx1, .int .i64 sk1, .int .i64 sy1, .slice b3 fn1 d3, .int .i64 e2, .bool hl2, .string l2, .int .i64 v2, .int .i64 o2, .int .i64 p2, .bool so2, .bool st2, .int .i64 sv2, .slice a4 pn2 c4, .bool sx2, .int .i64 sk2, .int .i64 sy2, .slice b4 fn2 d4] _ k5.out Tryz.underlying67 rfl (by kernel_rfl) ?_; refine wpList_store_mid rfl 67 (.tmp 2) (.tmp 15) rfl (w.heap.size + 1) 0 #[.string s, .int .i64 e1, .bool hl1, .string l1, .int .i64 v1, .int .i64 o1, .int .i64 p1, .bool so1, .bool st1, .int .i64 sv1, .slice a3 pn1 c3, .bool sx1, .int .i64 sk1, .int .i64 sy1, .slice b3 fn1 d3, .int .i64 e2, .bool hl2, .string l2, .int .i64 v2, .int .i64 o2, .int .i64 p2, .bool so2, .bool st2, .int .i64 sv2, .slice a4 pn2 c4, .bool sx2, .int .i64 sk2, .int .i64 sy2, .slice b4 fn2 d4] rfl rfl hth (by kernel_rfl) (by simp [Value.oneCell']) ?_; rw [HV4])
  clear hth HV4
  have hres := run_loadVar_mid (P := Tryz.prog) V3 (w.heap.size + 1) 0 67 [.string s, .int .i64 e1, .bool hl1, .string l1, .int .i64 v1, .int .i64 o1, .int .i64 p1, .bool so1, .bool st1, .int .i64 sv1, .slice a3 pn1 c3, .bool sx1, .int .i64 sk1, .int .i64 sy1, .slice b3 fn1 d3, .int .i64 e2, .bool hl2, .string l2, .int .i64 v2, .int .i64 o2, .int .i64 p2, .bool so2, .bool st2, .int .i64 sv2, .slice a4 pn2 c4, .bool sx2, .int .i64 sk2, .int .i64 sy2, .slice b4 fn2 d4] _ k6 Tryz.underlying67 rfl (by kernel_rfl)
  exact bodyPost_ret (v := .agg #[.string s, .int .i64 e1, .bool hl1, .string l1, .int .i64 v1, .int .i64 o1, .int .i64 p1, .bool so1, .bool st1, .int .i64 sv1, .slice a3 pn1 c3, .bool sx1, .int .i64 sk1, .int .i64 sy1, .slice b3 fn1 d3, .int .i64 e2, .bool hl2, .string l2, .int .i64 v2, .int .i64 o2, .int .i64 p2, .bool so2, .bool st2, .int .i64 sv2, .slice a4 pn2 c4, .bool sx2, .int .i64 sk2, .int .i64 sy2, .slice b4 fn2 d4]) (by simp [results, Tryz.results19, asAddr, hres]) rfl ⟨a3, c3, b3, d3, a4, c4, b4, d4, rfl, hC3, rr1, rr2⟩
end U
end Go.Proofs.YtdbbmclobmigdaaGreat
