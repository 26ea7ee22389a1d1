/- The law on BothSaid, walked: true, and nothing that was there has turned. -/
import Derived.Test.YtdbbmclobmigdaaGreatGSH
import Derived.Test.YtdbbmclobmigdaaGreatGSD
import Derived.Test.YtdbbmclobmigdaaGreatGSC
import Derived.Deep.RegionHeld3
namespace Go.Proofs.YtdbbmclobmigdaaGreat
open Go.RowKit
namespace U
/-- An answer of two numbers in a block. -/
structure IB (w : World) (g : Nat) (C V : Int) : Prop where
  h : w.heap[g]? = some (.cells #[.int .i64 C, .int .i64 V] 58)
theorem IB.lt {w : World} {g : Nat} {C V : Int} (h : IB w g C V) : g < w.heap.size := (Array.getElem?_eq_some_iff.1 h.h).1
theorem IB.below {w w' : World} {g : Nat} {C V : Int} (h : IB w g C V) (hb : Below w.heap.size w w') : IB w' g C V := ⟨(hb.block _ h.lt).trans h.h⟩
theorem IB.drew {w : World} {g : Nat} {C V : Int} (h : IB w g C V) : IB w.drew g C V := h.below (Below.refl _ _).drew
theorem IB.new (w : World) (C V : Int) : IB (w.alloc (.cells #[.int .i64 C, .int .i64 V] 58)) w.heap.size C V := ⟨heap_alloc_new w _⟩
theorem IB.set {w : World} {g : Nat} {C V : Int} (h : IB w g C V) (C' V' : Int) : IB ((w.setCell ⟨g, 0, none⟩ (.int .i64 C')).setCell ⟨g, 1, none⟩ (.int .i64 V')) g C' V' := by
  have h0 := heap_setCell_same w g 0 _ _ (.int .i64 C') h.h
  have h1 := heap_setCell_same _ g 1 _ _ (.int .i64 V') h0
  exact ⟨by simpa using h1⟩
theorem own_ints_se {w : World} {B n : Nat} {e : TypeId} {v : Value} {xs : List Int} (HN : n = xs.length) (h : w.ownsRow B e 1 v n (xs.map (Value.int .i64))) : Ints .i64 w v xs := by
  subst HN
  exact own_ints h
theorem own_prs_se {w : World} {B n : Nat} {e : TypeId} {v : Value} {l : Prl} (HN : n = l.length) (h : w.ownsRow B e 2 v n ((fl l).map (Value.int .i64))) : Prs w v l := by
  subst HN
  exact own_prs h
theorem law_three {w' : World} {g : Nat} {he hp ho hn hv : Int} {e1 : Int} {hl1 : Bool} {l1 : ByteArray} {v1 o1 p1 : Int} {so1 st1 : Bool} {sv1 : Int} {a1 : Option Addr} {pn1 c1 : Nat} {sx1 : Bool} {sk1 sy1 : Int} {b1 : Option Addr} {fn1 d1 : Nat} {e2 : Int} {hl2 : Bool} {l2 : ByteArray} {v2 o2 p2 : Int} {so2 st2 : Bool} {sv2 : Int} {a2 : Option Addr} {pn2 c2 : Nat} {sx2 : Bool} {sk2 sy2 : Int} {b2 : Option Addr} {fn2 d2 : Nat} (h : HdS w' g 0 ⟨he, hp, ho, hn, hv⟩) (h1 : w'.heap[g + 1]? = some (.cells #[.int .i64 e1, .bool hl1, .string l1, .int .i64 v1, .int .i64 o1, .int .i64 p1, .bool so1, .bool st1, .int .i64 sv1, .slice a1 pn1 c1, .bool sx1, .int .i64 sk1, .int .i64 sy1, .slice b1 fn1 d1] 35)) (h2 : w'.heap[g + 2]? = some (.cells #[.int .i64 e2, .bool hl2, .string l2, .int .i64 v2, .int .i64 o2, .int .i64 p2, .bool so2, .bool st2, .int .i64 sv2, .slice a2 pn2 c2, .bool sx2, .int .i64 sk2, .int .i64 sy2, .slice b2 fn2 d2] 35)) : w'.cell? ⟨g, 0, none⟩ = some (.int .i64 he) ∧ w'.cell? ⟨g, 1, none⟩ = some (.int .i64 hp) ∧ w'.cell? ⟨g, 2, none⟩ = some (.int .i64 ho) ∧ w'.cell? ⟨g, 3, none⟩ = some (.int .i64 hn) ∧ w'.cell? ⟨g, 4, none⟩ = some (.int .i64 hv) ∧ w'.cell? ⟨g + 1, 0, none⟩ = some (.int .i64 e1) ∧ w'.cell? ⟨g + 1, 1, none⟩ = some (.bool hl1) ∧ w'.cell? ⟨g + 1, 2, none⟩ = some (.string l1) ∧ w'.cell? ⟨g + 1, 3, none⟩ = some (.int .i64 v1) ∧ w'.cell? ⟨g + 1, 4, none⟩ = some (.int .i64 o1) ∧ w'.cell? ⟨g + 1, 5, none⟩ = some (.int .i64 p1) ∧ w'.cell? ⟨g + 1, 6, none⟩ = some (.bool so1) ∧ w'.cell? ⟨g + 1, 7, none⟩ = some (.bool st1) ∧ w'.cell? ⟨g + 1, 8, none⟩ = some (.int .i64 sv1) ∧ w'.cell? ⟨g + 1, 9, none⟩ = some (.slice a1 pn1 c1) ∧ w'.cell? ⟨g + 1, 10, none⟩ = some (.bool sx1) ∧ w'.cell? ⟨g + 1, 11, none⟩ = some (.int .i64 sk1) ∧ w'.cell? ⟨g + 1, 12, none⟩ = some (.int .i64 sy1) ∧ w'.cell? ⟨g + 1, 13, none⟩ = some (.slice b1 fn1 d1) ∧ w'.cell? ⟨g + 2, 0, none⟩ = some (.int .i64 e2) ∧ w'.cell? ⟨g + 2, 1, none⟩ = some (.bool hl2) ∧ w'.cell? ⟨g + 2, 2, none⟩ = some (.string l2) ∧ w'.cell? ⟨g + 2, 3, none⟩ = some (.int .i64 v2) ∧ w'.cell? ⟨g + 2, 4, none⟩ = some (.int .i64 o2) ∧ w'.cell? ⟨g + 2, 5, none⟩ = some (.int .i64 p2) ∧ w'.cell? ⟨g + 2, 6, none⟩ = some (.bool so2) ∧ w'.cell? ⟨g + 2, 7, none⟩ = some (.bool st2) ∧ w'.cell? ⟨g + 2, 8, none⟩ = some (.int .i64 sv2) ∧ w'.cell? ⟨g + 2, 9, none⟩ = some (.slice a2 pn2 c2) ∧ w'.cell? ⟨g + 2, 10, none⟩ = some (.bool sx2) ∧ w'.cell? ⟨g + 2, 11, none⟩ = some (.int .i64 sk2) ∧ w'.cell? ⟨g + 2, 12, none⟩ = some (.int .i64 sy2) ∧ w'.cell? ⟨g + 2, 13, none⟩ = some (.slice b2 fn2 d2) := by
  obtain ⟨⟨p0, p1, p2, p3, p4, p5, p6, p7, p8, p9, p10, p11, p12, p13⟩, -⟩ := fourteen h1
  obtain ⟨⟨r0, r1, r2, r3, r4, r5, r6, r7, r8, r9, r10, r11, r12, r13⟩, -⟩ := fourteen h2
  exact ⟨h.c0, h.c1, h.c2, h.c3, h.c4, p0, p1, p2, p3, p4, p5, p6, p7, p8, p9, p10, p11, p12, p13, r0, r1, r2, r3, r4, r5, r6, r7, r8, r9, r10, r11, r12, r13⟩
theorem law_all {w' : World} {g g4 g5 : Nat} {he hp ho hn hv : Int} {e1 : Int} {hl1 : Bool} {l1 : ByteArray} {v1 o1 p1 : Int} {so1 st1 : Bool} {sv1 : Int} {a1 : Option Addr} {pn1 c1 : Nat} {sx1 : Bool} {sk1 sy1 : Int} {b1 : Option Addr} {fn1 d1 : Nat} {e2 : Int} {hl2 : Bool} {l2 : ByteArray} {v2 o2 p2 : Int} {so2 st2 : Bool} {sv2 : Int} {a2 : Option Addr} {pn2 c2 : Nat} {sx2 : Bool} {sk2 sy2 : Int} {b2 : Option Addr} {fn2 d2 : Nat} {x1a x1b x2a x2b : Option Addr} {x1c x1d x2c x2d : Nat} (h : w'.cell? ⟨g, 0, none⟩ = some (.int .i64 he) ∧ w'.cell? ⟨g, 1, none⟩ = some (.int .i64 hp) ∧ w'.cell? ⟨g, 2, none⟩ = some (.int .i64 ho) ∧ w'.cell? ⟨g, 3, none⟩ = some (.int .i64 hn) ∧ w'.cell? ⟨g, 4, none⟩ = some (.int .i64 hv) ∧ w'.cell? ⟨g + 1, 0, none⟩ = some (.int .i64 e1) ∧ w'.cell? ⟨g + 1, 1, none⟩ = some (.bool hl1) ∧ w'.cell? ⟨g + 1, 2, none⟩ = some (.string l1) ∧ w'.cell? ⟨g + 1, 3, none⟩ = some (.int .i64 v1) ∧ w'.cell? ⟨g + 1, 4, none⟩ = some (.int .i64 o1) ∧ w'.cell? ⟨g + 1, 5, none⟩ = some (.int .i64 p1) ∧ w'.cell? ⟨g + 1, 6, none⟩ = some (.bool so1) ∧ w'.cell? ⟨g + 1, 7, none⟩ = some (.bool st1) ∧ w'.cell? ⟨g + 1, 8, none⟩ = some (.int .i64 sv1) ∧ w'.cell? ⟨g + 1, 9, none⟩ = some (.slice a1 pn1 c1) ∧ w'.cell? ⟨g + 1, 10, none⟩ = some (.bool sx1) ∧ w'.cell? ⟨g + 1, 11, none⟩ = some (.int .i64 sk1) ∧ w'.cell? ⟨g + 1, 12, none⟩ = some (.int .i64 sy1) ∧ w'.cell? ⟨g + 1, 13, none⟩ = some (.slice b1 fn1 d1) ∧ w'.cell? ⟨g + 2, 0, none⟩ = some (.int .i64 e2) ∧ w'.cell? ⟨g + 2, 1, none⟩ = some (.bool hl2) ∧ w'.cell? ⟨g + 2, 2, none⟩ = some (.string l2) ∧ w'.cell? ⟨g + 2, 3, none⟩ = some (.int .i64 v2) ∧ w'.cell? ⟨g + 2, 4, none⟩ = some (.int .i64 o2) ∧ w'.cell? ⟨g + 2, 5, none⟩ = some (.int .i64 p2) ∧ w'.cell? ⟨g + 2, 6, none⟩ = some (.bool so2) ∧ w'.cell? ⟨g + 2, 7, none⟩ = some (.bool st2) ∧ w'.cell? ⟨g + 2, 8, none⟩ = some (.int .i64 sv2) ∧ w'.cell? ⟨g + 2, 9, none⟩ = some (.slice a2 pn2 c2) ∧ w'.cell? ⟨g + 2, 10, none⟩ = some (.bool sx2) ∧ w'.cell? ⟨g + 2, 11, none⟩ = some (.int .i64 sk2) ∧ w'.cell? ⟨g + 2, 12, none⟩ = some (.int .i64 sy2) ∧ w'.cell? ⟨g + 2, 13, none⟩ = some (.slice b2 fn2 d2)) (h1 : w'.heap[g4]? = some (.cells #[.int .i64 e1, .bool hl1, .string l1, .int .i64 v1, .int .i64 o1, .int .i64 p1, .bool so1, .bool st1, .int .i64 sv1, .slice x1a pn1 x1c, .bool sx1, .int .i64 sk1, .int .i64 sy1, .slice x1b fn1 x1d] 52)) (h2 : w'.heap[g5]? = some (.cells #[.int .i64 e2, .bool hl2, .string l2, .int .i64 v2, .int .i64 o2, .int .i64 p2, .bool so2, .bool st2, .int .i64 sv2, .slice x2a pn2 x2c, .bool sx2, .int .i64 sk2, .int .i64 sy2, .slice x2b fn2 x2d] 52)) : w'.cell? ⟨g, 0, none⟩ = some (.int .i64 he) ∧ w'.cell? ⟨g, 1, none⟩ = some (.int .i64 hp) ∧ w'.cell? ⟨g, 2, none⟩ = some (.int .i64 ho) ∧ w'.cell? ⟨g, 3, none⟩ = some (.int .i64 hn) ∧ w'.cell? ⟨g, 4, none⟩ = some (.int .i64 hv) ∧ w'.cell? ⟨g + 1, 0, none⟩ = some (.int .i64 e1) ∧ w'.cell? ⟨g + 1, 1, none⟩ = some (.bool hl1) ∧ w'.cell? ⟨g + 1, 2, none⟩ = some (.string l1) ∧ w'.cell? ⟨g + 1, 3, none⟩ = some (.int .i64 v1) ∧ w'.cell? ⟨g + 1, 4, none⟩ = some (.int .i64 o1) ∧ w'.cell? ⟨g + 1, 5, none⟩ = some (.int .i64 p1) ∧ w'.cell? ⟨g + 1, 6, none⟩ = some (.bool so1) ∧ w'.cell? ⟨g + 1, 7, none⟩ = some (.bool st1) ∧ w'.cell? ⟨g + 1, 8, none⟩ = some (.int .i64 sv1) ∧ w'.cell? ⟨g + 1, 9, none⟩ = some (.slice a1 pn1 c1) ∧ w'.cell? ⟨g + 1, 10, none⟩ = some (.bool sx1) ∧ w'.cell? ⟨g + 1, 11, none⟩ = some (.int .i64 sk1) ∧ w'.cell? ⟨g + 1, 12, none⟩ = some (.int .i64 sy1) ∧ w'.cell? ⟨g + 1, 13, none⟩ = some (.slice b1 fn1 d1) ∧ w'.cell? ⟨g + 2, 0, none⟩ = some (.int .i64 e2) ∧ w'.cell? ⟨g + 2, 1, none⟩ = some (.bool hl2) ∧ w'.cell? ⟨g + 2, 2, none⟩ = some (.string l2) ∧ w'.cell? ⟨g + 2, 3, none⟩ = some (.int .i64 v2) ∧ w'.cell? ⟨g + 2, 4, none⟩ = some (.int .i64 o2) ∧ w'.cell? ⟨g + 2, 5, none⟩ = some (.int .i64 p2) ∧ w'.cell? ⟨g + 2, 6, none⟩ = some (.bool so2) ∧ w'.cell? ⟨g + 2, 7, none⟩ = some (.bool st2) ∧ w'.cell? ⟨g + 2, 8, none⟩ = some (.int .i64 sv2) ∧ w'.cell? ⟨g + 2, 9, none⟩ = some (.slice a2 pn2 c2) ∧ w'.cell? ⟨g + 2, 10, none⟩ = some (.bool sx2) ∧ w'.cell? ⟨g + 2, 11, none⟩ = some (.int .i64 sk2) ∧ w'.cell? ⟨g + 2, 12, none⟩ = some (.int .i64 sy2) ∧ w'.cell? ⟨g + 2, 13, none⟩ = some (.slice b2 fn2 d2) ∧ w'.cell? ⟨g4, 0, none⟩ = some (.int .i64 e1) ∧ w'.cell? ⟨g4, 1, none⟩ = some (.bool hl1) ∧ w'.cell? ⟨g4, 2, none⟩ = some (.string l1) ∧ w'.cell? ⟨g4, 3, none⟩ = some (.int .i64 v1) ∧ w'.cell? ⟨g4, 4, none⟩ = some (.int .i64 o1) ∧ w'.cell? ⟨g4, 5, none⟩ = some (.int .i64 p1) ∧ w'.cell? ⟨g4, 6, none⟩ = some (.bool so1) ∧ w'.cell? ⟨g4, 7, none⟩ = some (.bool st1) ∧ w'.cell? ⟨g4, 8, none⟩ = some (.int .i64 sv1) ∧ w'.cell? ⟨g4, 9, none⟩ = some (.slice x1a pn1 x1c) ∧ w'.cell? ⟨g4, 10, none⟩ = some (.bool sx1) ∧ w'.cell? ⟨g4, 11, none⟩ = some (.int .i64 sk1) ∧ w'.cell? ⟨g4, 12, none⟩ = some (.int .i64 sy1) ∧ w'.cell? ⟨g4, 13, none⟩ = some (.slice x1b fn1 x1d) ∧ w'.cell? ⟨g5, 0, none⟩ = some (.int .i64 e2) ∧ w'.cell? ⟨g5, 1, none⟩ = some (.bool hl2) ∧ w'.cell? ⟨g5, 2, none⟩ = some (.string l2) ∧ w'.cell? ⟨g5, 3, none⟩ = some (.int .i64 v2) ∧ w'.cell? ⟨g5, 4, none⟩ = some (.int .i64 o2) ∧ w'.cell? ⟨g5, 5, none⟩ = some (.int .i64 p2) ∧ w'.cell? ⟨g5, 6, none⟩ = some (.bool so2) ∧ w'.cell? ⟨g5, 7, none⟩ = some (.bool st2) ∧ w'.cell? ⟨g5, 8, none⟩ = some (.int .i64 sv2) ∧ w'.cell? ⟨g5, 9, none⟩ = some (.slice x2a pn2 x2c) ∧ w'.cell? ⟨g5, 10, none⟩ = some (.bool sx2) ∧ w'.cell? ⟨g5, 11, none⟩ = some (.int .i64 sk2) ∧ w'.cell? ⟨g5, 12, none⟩ = some (.int .i64 sy2) ∧ w'.cell? ⟨g5, 13, none⟩ = some (.slice x2b fn2 x2d) := by
  obtain ⟨cc0, cc1, cc2, cc3, cc4, cc5, cc6, cc7, cc8, cc9, cc10, cc11, cc12, cc13, cc14, cc15, cc16, cc17, cc18, cc19, cc20, cc21, cc22, cc23, cc24, cc25, cc26, cc27, cc28, cc29, cc30, cc31, cc32⟩ := h
  obtain ⟨⟨r0, r1, r2, r3, r4, r5, r6, r7, r8, r9, r10, r11, r12, r13⟩, -⟩ := fourteen h1
  obtain ⟨⟨s0, s1, s2, s3, s4, s5, s6, s7, s8, s9, s10, s11, s12, s13⟩, -⟩ := fourteen h2
  exact ⟨cc0, cc1, cc2, cc3, cc4, cc5, cc6, cc7, cc8, cc9, cc10, cc11, cc12, cc13, cc14, cc15, cc16, cc17, cc18, cc19, cc20, cc21, cc22, cc23, cc24, cc25, cc26, cc27, cc28, cc29, cc30, cc31, cc32, r0, r1, r2, r3, r4, r5, r6, r7, r8, r9, r10, r11, r12, r13, s0, s1, s2, s3, s4, s5, s6, s7, s8, s9, s10, s11, s12, s13⟩
theorem HdS_ofT {w : World} {g : Nat} {he hp ho hn hv : Int} {t : TypeId} (h : w.heap[g]? = some (.cells #[.int .i64 he, .int .i64 hp, .int .i64 ho, .int .i64 hn, .int .i64 hv] t)) : HdS w g 0 ⟨he, hp, ho, hn, hv⟩ := by
  obtain ⟨h0, h1, h2, h3, h4⟩ := five_cells h
  exact ⟨h0, h1, h2, h3, h4⟩
set_option maxRecDepth 100000 in
set_option maxHeartbeats 8000000 in
theorem fnExactBothSaid_walk (he hp ho hn hv : Int) (s : ByteArray) (e1 : Int) (hl1 : Bool) (l1 : ByteArray) (v1 o1 p1 : Int) (so1 st1 : Bool) (sv1 : Int) (sp1 : Value) (ps1 : List Int) (sx1 : Bool) (sk1 sy1 : Int) (sf1 : Value) (m1 : Prl) (e2 : Int) (hl2 : Bool) (l2 : ByteArray) (v2 o2 p2 : Int) (so2 st2 : Bool) (sv2 : Int) (sp2 : Value) (ps2 : List Int) (sx2 : Bool) (sk2 sy2 : Int) (sf2 : Value) (m2 : Prl) (w : World) (hls : s.size ≤ maxLen) (hs1 : l1.size ≤ maxLen) (I1 : Ints .i64 w sp1 ps1) (hp1 : ps1.length ≤ maxLen) (P1 : Prs w sf1 m1) (hm1 : m1.length ≤ maxLen) (hs2 : l2.size ≤ maxLen) (I2 : Ints .i64 w sp2 ps2) (hp2 : ps2.length ≤ maxLen) (P2 : Prs w sf2 m2) (hm2 : m2.length ≤ maxLen) :
    Calls Tryz.prog 4 #[.agg #[.int .i64 he, .int .i64 hp, .int .i64 ho, .int .i64 hn, .int .i64 hv], .string s, .agg #[.int .i64 e1, .bool hl1, .string l1, .int .i64 v1, .int .i64 o1, .int .i64 p1, .bool so1, .bool st1, .int .i64 sv1, sp1, .bool sx1, .int .i64 sk1, .int .i64 sy1, sf1], .agg #[.int .i64 e2, .bool hl2, .string l2, .int .i64 v2, .int .i64 o2, .int .i64 p2, .bool so2, .bool st2, .int .i64 sv2, sp2, .bool sx2, .int .i64 sk2, .int .i64 sy2, sf2]] w fun x w' => x = .returned (.bool true) ∧ Below w.heap.size w w' := by
  obtain ⟨a1, c1, rfl⟩ := I1.shape
  obtain ⟨b1, d1, rfl⟩ := P1.shape
  obtain ⟨a2, c2, rfl⟩ := I2.shape
  obtain ⟨b2, d2, rfl⟩ := P2.shape
  unfold maxLen at hls
  by_cases hsz : 1048576 < s.size
  · generalize ps1.length = pn1 at *
    generalize m1.length = fn1 at *
    generalize ps2.length = pn2 at *
    generalize m2.length = fn2 at *
    clear I1 P1 I2 P2
    go_enter Tryz.func4, Tryz.ntmps4
    go_wp2
    go_ret
    exact ⟨rfl, three_new _ _ _⟩
  have hsz' : s.size ≤ 1048576 := by omega
  have hZ1 := fun w => szReply_any e1 hl1 l1 v1 o1 p1 so1 st1 sv1 a1 ps1.length c1 sx1 sk1 sy1 b1 m1.length d1 w hs1 hp1 hm1
  by_cases h : l1.size + ps1.length + m1.length ≤ 1048576
  · rw [if_pos h] at hZ1
    have hZ2 := fun w => szReply_gen (1048576 - l1.size - ps1.length - m1.length) (by omega) e2 hl2 l2 v2 o2 p2 so2 st2 sv2 a2 ps2.length c2 sx2 sk2 sy2 b2 m2.length d2 w hs2 hp2 hm2
    rw [show ((1048576 - l1.size - ps1.length - m1.length : Nat) : Int) = (1048576 - l1.size - ps1.length - m1.length : Int) by omega] at hZ2
    have h2 : ¬ ((1048576 - l1.size - ps1.length - m1.length : Int) < 0) := by omega
    by_cases h3 : l2.size + ps2.length + m2.length ≤ 1048576 - l1.size - ps1.length - m1.length
    · rw [if_pos h3] at hZ2
      have h4 : ¬ ((1048576 - l1.size - ps1.length - m1.length : Int) - l2.size - ps2.length - m2.length < 0) := by omega
      have hTh := fun w => toHead_any he hp ho hn hv w
      have hT1 := fun w' hb => toReply_any e1 hl1 l1 v1 o1 p1 so1 st1 sv1 _ ps1 sx1 sk1 sy1 _ m1 w' (I1.below (w' := w') hb) (P1.below hb) (by omega) (by omega)
      have hT2 := fun w' hb => toReply_any e2 hl2 l2 v2 o2 p2 so2 st2 sv2 _ ps2 sx2 sk2 sy2 _ m2 w' (I2.below (w' := w') hb) (P2.below hb) (by omega) (by omega)
      have hE1 := fun u u' z z' w' g1 g2 g3 g4 => eqReply_same e1 hl1 l1 v1 o1 p1 so1 st1 sv1 u u' ps1 sx1 sk1 sy1 z z' m1 w' g1 g2 g3 g4 (by omega) (by omega)
      have hE2 := fun u u' z z' w' g1 g2 g3 g4 => eqReply_same e2 hl2 l2 v2 o2 p2 so2 st2 sv2 u u' ps2 sx2 sk2 sy2 z z' m2 w' g1 g2 g3 g4 (by omega) (by omega)
      obtain ⟨C, V, hCV⟩ := BvOf.ex he hp ho hn hv s e1 hl1 l1 v1 o1 p1 so1 st1 sv1 ps1 sx1 sk1 sy1 m1 e2 hl2 l2 v2 o2 p2 so2 st2 sv2 ps2 sx2 sk2 sy2 m2
      have hS := fun u1 x1 u2 x2 y1 z1 y2 z2 w i1 q1 i2 q2 => specBoth_at he hp ho hn hv s hsz' e1 hl1 l1 v1 o1 p1 so1 st1 sv1 ps1 sx1 sk1 sy1 m1 e2 hl2 l2 v2 o2 p2 so2 st2 sv2 ps2 sx2 sk2 sy2 m2 C V hCV (by omega) (by omega) (by omega) (by omega) u1 x1 u2 x2 y1 z1 y2 z2 w i1 q1 i2 q2
      have hI := fun u1 x1 u2 x2 y1 z1 y2 z2 w i1 q1 i2 q2 => implBoth_at he hp ho hn hv s hsz' e1 hl1 l1 v1 o1 p1 so1 st1 sv1 ps1 sx1 sk1 sy1 m1 e2 hl2 l2 v2 o2 p2 so2 st2 sv2 ps2 sx2 sk2 sy2 m2 C V hCV (by omega) (by omega) (by omega) (by omega) (by omega) (by omega) u1 x1 u2 x2 y1 z1 y2 z2 w i1 q1 i2 q2
      obtain ⟨pn1, hpn1⟩ : ∃ n, n = ps1.length := ⟨_, rfl⟩
      obtain ⟨fn1, hfn1⟩ : ∃ n, n = m1.length := ⟨_, rfl⟩
      obtain ⟨pn2, hpn2⟩ : ∃ n, n = ps2.length := ⟨_, rfl⟩
      obtain ⟨fn2, hfn2⟩ : ∃ n, n = m2.length := ⟨_, rfl⟩
      have HPN1 : Hid (pn1 = ps1.length) := hpn1
      have HFN1 : Hid (fn1 = m1.length) := hfn1
      have HPN2 : Hid (pn2 = ps2.length) := hpn2
      have HFN2 : Hid (fn2 = m2.length) := hfn2
      rw [← hpn1, ← hfn1] at hZ1 hZ2 hT1 hS hI h2 h4
      rw [← hpn2, ← hfn2] at hZ2 hT2 hS hI h4
      rw [← hpn1, ← hfn1, ← hpn2, ← hfn2]
      unfold rpV at hT1 hT2 hE1 hE2
      unfold hdV at hTh
      clear hpn1 hfn1 hpn2 hfn2 hp1 hm1 hp2 hm2 h h3 hs1 hs2 hCV
      generalize (1048576 - l1.size - pn1 - fn1 : Int) = z1 at *
      generalize (z1 - l2.size - pn2 - fn2 : Int) = z2 at *
      obtain ⟨W, hW⟩ : ∃ W, W = ((w.alloc (.cells #[.int .i64 he, .int .i64 hp, .int .i64 ho, .int .i64 hn, .int .i64 hv] 23)).alloc (.cells #[.int .i64 e1, .bool hl1, .string l1, .int .i64 v1, .int .i64 o1, .int .i64 p1, .bool so1, .bool st1, .int .i64 sv1, .slice a1 pn1 c1, .bool sx1, .int .i64 sk1, .int .i64 sy1, .slice b1 fn1 d1] 35)).alloc (.cells #[.int .i64 e2, .bool hl2, .string l2, .int .i64 v2, .int .i64 o2, .int .i64 p2, .bool so2, .bool st2, .int .i64 sv2, .slice a2 pn2 c2, .bool sx2, .int .i64 sk2, .int .i64 sy2, .slice b2 fn2 d2] 35) := ⟨_, rfl⟩
      have HW : Hid (((w.alloc (.cells #[.int .i64 he, .int .i64 hp, .int .i64 ho, .int .i64 hn, .int .i64 hv] 23)).alloc (.cells #[.int .i64 e1, .bool hl1, .string l1, .int .i64 v1, .int .i64 o1, .int .i64 p1, .bool so1, .bool st1, .int .i64 sv1, .slice a1 pn1 c1, .bool sx1, .int .i64 sk1, .int .i64 sy1, .slice b1 fn1 d1] 35)).alloc (.cells #[.int .i64 e2, .bool hl2, .string l2, .int .i64 v2, .int .i64 o2, .int .i64 p2, .bool so2, .bool st2, .int .i64 sv2, .slice a2 pn2 c2, .bool sx2, .int .i64 sk2, .int .i64 sy2, .slice b2 fn2 d2] 35) = W) := hW.symm
      have hb0 : Below w.heap.size w W := by rw [hW]; exact three_new _ _ _
      have HA : HdS W w.heap.size 0 ⟨he, hp, ho, hn, hv⟩ ∧ W.heap[w.heap.size + 1]? = some (.cells #[.int .i64 e1, .bool hl1, .string l1, .int .i64 v1, .int .i64 o1, .int .i64 p1, .bool so1, .bool st1, .int .i64 sv1, .slice a1 pn1 c1, .bool sx1, .int .i64 sk1, .int .i64 sy1, .slice b1 fn1 d1] 35) ∧ W.heap[w.heap.size + 2]? = some (.cells #[.int .i64 e2, .bool hl2, .string l2, .int .i64 v2, .int .i64 o2, .int .i64 p2, .bool so2, .bool st2, .int .i64 sv2, .slice a2 pn2 c2, .bool sx2, .int .i64 sk2, .int .i64 sy2, .slice b2 fn2 d2] 35) := by
        rw [hW]
        have hx := heap_at2 (one_new (w := (w.alloc (.cells #[.int .i64 he, .int .i64 hp, .int .i64 ho, .int .i64 hn, .int .i64 hv] 23)).alloc (.cells #[.int .i64 e1, .bool hl1, .string l1, .int .i64 v1, .int .i64 o1, .int .i64 p1, .bool so1, .bool st1, .int .i64 sv1, .slice a1 pn1 c1, .bool sx1, .int .i64 sk1, .int .i64 sy1, .slice b1 fn1 d1] 35)) (.cells #[.int .i64 e2, .bool hl2, .string l2, .int .i64 v2, .int .i64 o2, .int .i64 p2, .bool so2, .bool st2, .int .i64 sv2, .slice a2 pn2 c2, .bool sx2, .int .i64 sk2, .int .i64 sy2, .slice b2 fn2 d2] 35))
        refine ⟨HdS_ofT hx.1, hx.2, ?_⟩
        have ee2 : ((w.alloc (.cells #[.int .i64 he, .int .i64 hp, .int .i64 ho, .int .i64 hn, .int .i64 hv] 23)).alloc (.cells #[.int .i64 e1, .bool hl1, .string l1, .int .i64 v1, .int .i64 o1, .int .i64 p1, .bool so1, .bool st1, .int .i64 sv1, .slice a1 pn1 c1, .bool sx1, .int .i64 sk1, .int .i64 sy1, .slice b1 fn1 d1] 35)).heap.size = w.heap.size + 2 := by simp
        rw [← ee2]
        exact heap_alloc_new _ _
      have hlt : w.heap.size + 2 < W.heap.size := (Array.getElem?_eq_some_iff.1 HA.2.2).1
      have HAA : Hid (∀ w', Below W.heap.size W w' → w'.cell? ⟨w.heap.size, 0, none⟩ = some (.int .i64 he) ∧ w'.cell? ⟨w.heap.size, 1, none⟩ = some (.int .i64 hp) ∧ w'.cell? ⟨w.heap.size, 2, none⟩ = some (.int .i64 ho) ∧ w'.cell? ⟨w.heap.size, 3, none⟩ = some (.int .i64 hn) ∧ w'.cell? ⟨w.heap.size, 4, none⟩ = some (.int .i64 hv) ∧ w'.cell? ⟨w.heap.size + 1, 0, none⟩ = some (.int .i64 e1) ∧ w'.cell? ⟨w.heap.size + 1, 1, none⟩ = some (.bool hl1) ∧ w'.cell? ⟨w.heap.size + 1, 2, none⟩ = some (.string l1) ∧ w'.cell? ⟨w.heap.size + 1, 3, none⟩ = some (.int .i64 v1) ∧ w'.cell? ⟨w.heap.size + 1, 4, none⟩ = some (.int .i64 o1) ∧ w'.cell? ⟨w.heap.size + 1, 5, none⟩ = some (.int .i64 p1) ∧ w'.cell? ⟨w.heap.size + 1, 6, none⟩ = some (.bool so1) ∧ w'.cell? ⟨w.heap.size + 1, 7, none⟩ = some (.bool st1) ∧ w'.cell? ⟨w.heap.size + 1, 8, none⟩ = some (.int .i64 sv1) ∧ w'.cell? ⟨w.heap.size + 1, 9, none⟩ = some (.slice a1 pn1 c1) ∧ w'.cell? ⟨w.heap.size + 1, 10, none⟩ = some (.bool sx1) ∧ w'.cell? ⟨w.heap.size + 1, 11, none⟩ = some (.int .i64 sk1) ∧ w'.cell? ⟨w.heap.size + 1, 12, none⟩ = some (.int .i64 sy1) ∧ w'.cell? ⟨w.heap.size + 1, 13, none⟩ = some (.slice b1 fn1 d1) ∧ w'.cell? ⟨w.heap.size + 2, 0, none⟩ = some (.int .i64 e2) ∧ w'.cell? ⟨w.heap.size + 2, 1, none⟩ = some (.bool hl2) ∧ w'.cell? ⟨w.heap.size + 2, 2, none⟩ = some (.string l2) ∧ w'.cell? ⟨w.heap.size + 2, 3, none⟩ = some (.int .i64 v2) ∧ w'.cell? ⟨w.heap.size + 2, 4, none⟩ = some (.int .i64 o2) ∧ w'.cell? ⟨w.heap.size + 2, 5, none⟩ = some (.int .i64 p2) ∧ w'.cell? ⟨w.heap.size + 2, 6, none⟩ = some (.bool so2) ∧ w'.cell? ⟨w.heap.size + 2, 7, none⟩ = some (.bool st2) ∧ w'.cell? ⟨w.heap.size + 2, 8, none⟩ = some (.int .i64 sv2) ∧ w'.cell? ⟨w.heap.size + 2, 9, none⟩ = some (.slice a2 pn2 c2) ∧ w'.cell? ⟨w.heap.size + 2, 10, none⟩ = some (.bool sx2) ∧ w'.cell? ⟨w.heap.size + 2, 11, none⟩ = some (.int .i64 sk2) ∧ w'.cell? ⟨w.heap.size + 2, 12, none⟩ = some (.int .i64 sy2) ∧ w'.cell? ⟨w.heap.size + 2, 13, none⟩ = some (.slice b2 fn2 d2)) := fun w' hb => law_three (HA.1.below hb (by omega)) ((hb.block _ (by omega)).trans HA.2.1) ((hb.block _ hlt).trans HA.2.2)
      obtain ⟨cc0, cc1, cc2, cc3, cc4, cc5, cc6, cc7, cc8, cc9, cc10, cc11, cc12, cc13, cc14, cc15, cc16, cc17, cc18, cc19, cc20, cc21, cc22, cc23, cc24, cc25, cc26, cc27, cc28, cc29, cc30, cc31, cc32⟩ := HAA.out _ (Below.refl _ _)
      clear hW HA I1 P1 I2 P2
      go_enter Tryz.func4, Tryz.ntmps4
      go_wp2_with fail
      rw [HW.out]
      go_wp2_with fail
      refine (hZ1 _).mono ?_
      rintro x w0 ⟨rfl, hbz⟩
      clear cc0 cc1 cc2 cc3 cc4 cc5 cc6 cc7 cc8 cc9 cc10 cc11 cc12 cc13 cc14 cc15 cc16 cc17 cc18 cc19 cc20 cc21 cc22 cc23 cc24 cc25 cc26 cc27 cc28 cc29 cc30 cc31 cc32
      obtain ⟨cc0, cc1, cc2, cc3, cc4, cc5, cc6, cc7, cc8, cc9, cc10, cc11, cc12, cc13, cc14, cc15, cc16, cc17, cc18, cc19, cc20, cc21, cc22, cc23, cc24, cc25, cc26, cc27, cc28, cc29, cc30, cc31, cc32⟩ := HAA.out _ hbz
      go_wp2_with fail
      refine (hZ2 _).mono ?_
      rintro x w1 ⟨rfl, hby⟩
      have hb1 := below_after_of hbz hby
      have hB1 := below_after_of hb0 hb1
      have hlw : w.heap.size + 2 < w1.heap.size := Nat.lt_of_lt_of_le hlt hb1.size
      have HA1 : Hid (∀ w', Below w1.heap.size w1 w' → w'.cell? ⟨w.heap.size, 0, none⟩ = some (.int .i64 he) ∧ w'.cell? ⟨w.heap.size, 1, none⟩ = some (.int .i64 hp) ∧ w'.cell? ⟨w.heap.size, 2, none⟩ = some (.int .i64 ho) ∧ w'.cell? ⟨w.heap.size, 3, none⟩ = some (.int .i64 hn) ∧ w'.cell? ⟨w.heap.size, 4, none⟩ = some (.int .i64 hv) ∧ w'.cell? ⟨w.heap.size + 1, 0, none⟩ = some (.int .i64 e1) ∧ w'.cell? ⟨w.heap.size + 1, 1, none⟩ = some (.bool hl1) ∧ w'.cell? ⟨w.heap.size + 1, 2, none⟩ = some (.string l1) ∧ w'.cell? ⟨w.heap.size + 1, 3, none⟩ = some (.int .i64 v1) ∧ w'.cell? ⟨w.heap.size + 1, 4, none⟩ = some (.int .i64 o1) ∧ w'.cell? ⟨w.heap.size + 1, 5, none⟩ = some (.int .i64 p1) ∧ w'.cell? ⟨w.heap.size + 1, 6, none⟩ = some (.bool so1) ∧ w'.cell? ⟨w.heap.size + 1, 7, none⟩ = some (.bool st1) ∧ w'.cell? ⟨w.heap.size + 1, 8, none⟩ = some (.int .i64 sv1) ∧ w'.cell? ⟨w.heap.size + 1, 9, none⟩ = some (.slice a1 pn1 c1) ∧ w'.cell? ⟨w.heap.size + 1, 10, none⟩ = some (.bool sx1) ∧ w'.cell? ⟨w.heap.size + 1, 11, none⟩ = some (.int .i64 sk1) ∧ w'.cell? ⟨w.heap.size + 1, 12, none⟩ = some (.int .i64 sy1) ∧ w'.cell? ⟨w.heap.size + 1, 13, none⟩ = some (.slice b1 fn1 d1) ∧ w'.cell? ⟨w.heap.size + 2, 0, none⟩ = some (.int .i64 e2) ∧ w'.cell? ⟨w.heap.size + 2, 1, none⟩ = some (.bool hl2) ∧ w'.cell? ⟨w.heap.size + 2, 2, none⟩ = some (.string l2) ∧ w'.cell? ⟨w.heap.size + 2, 3, none⟩ = some (.int .i64 v2) ∧ w'.cell? ⟨w.heap.size + 2, 4, none⟩ = some (.int .i64 o2) ∧ w'.cell? ⟨w.heap.size + 2, 5, none⟩ = some (.int .i64 p2) ∧ w'.cell? ⟨w.heap.size + 2, 6, none⟩ = some (.bool so2) ∧ w'.cell? ⟨w.heap.size + 2, 7, none⟩ = some (.bool st2) ∧ w'.cell? ⟨w.heap.size + 2, 8, none⟩ = some (.int .i64 sv2) ∧ w'.cell? ⟨w.heap.size + 2, 9, none⟩ = some (.slice a2 pn2 c2) ∧ w'.cell? ⟨w.heap.size + 2, 10, none⟩ = some (.bool sx2) ∧ w'.cell? ⟨w.heap.size + 2, 11, none⟩ = some (.int .i64 sk2) ∧ w'.cell? ⟨w.heap.size + 2, 12, none⟩ = some (.int .i64 sy2) ∧ w'.cell? ⟨w.heap.size + 2, 13, none⟩ = some (.slice b2 fn2 d2)) := fun w' hb => HAA.out _ (below_after_of hb1 hb)
      clear hZ1 hZ2 cc0 cc1 cc2 cc3 cc4 cc5 cc6 cc7 cc8 cc9 cc10 cc11 cc12 cc13 cc14 cc15 cc16 cc17 cc18 cc19 cc20 cc21 cc22 cc23 cc24 cc25 cc26 cc27 cc28 cc29 cc30 cc31 cc32 HAA hb1 hbz hby
      go_wp2_with fail
      have q0 : ∀ w', Below w1.heap.size w1 w' → w'.cell? ⟨w.heap.size, 0, none⟩ = some (.int .i64 he) := fun w' h => (HA1.out w' h).1
      have q1 : ∀ w', Below w1.heap.size w1 w' → w'.cell? ⟨w.heap.size, 1, none⟩ = some (.int .i64 hp) := fun w' h => (HA1.out w' h).2.1
      have q2 : ∀ w', Below w1.heap.size w1 w' → w'.cell? ⟨w.heap.size, 2, none⟩ = some (.int .i64 ho) := fun w' h => (HA1.out w' h).2.2.1
      have q3 : ∀ w', Below w1.heap.size w1 w' → w'.cell? ⟨w.heap.size, 3, none⟩ = some (.int .i64 hn) := fun w' h => (HA1.out w' h).2.2.2.1
      have q4 : ∀ w', Below w1.heap.size w1 w' → w'.cell? ⟨w.heap.size, 4, none⟩ = some (.int .i64 hv) := fun w' h => (HA1.out w' h).2.2.2.2.1
      have q5 : ∀ w', Below w1.heap.size w1 w' → w'.cell? ⟨w.heap.size + 1, 0, none⟩ = some (.int .i64 e1) := fun w' h => (HA1.out w' h).2.2.2.2.2.1
      have q6 : ∀ w', Below w1.heap.size w1 w' → w'.cell? ⟨w.heap.size + 1, 1, none⟩ = some (.bool hl1) := fun w' h => (HA1.out w' h).2.2.2.2.2.2.1
      have q7 : ∀ w', Below w1.heap.size w1 w' → w'.cell? ⟨w.heap.size + 1, 2, none⟩ = some (.string l1) := fun w' h => (HA1.out w' h).2.2.2.2.2.2.2.1
      have q8 : ∀ w', Below w1.heap.size w1 w' → w'.cell? ⟨w.heap.size + 1, 3, none⟩ = some (.int .i64 v1) := fun w' h => (HA1.out w' h).2.2.2.2.2.2.2.2.1
      have q9 : ∀ w', Below w1.heap.size w1 w' → w'.cell? ⟨w.heap.size + 1, 4, none⟩ = some (.int .i64 o1) := fun w' h => (HA1.out w' h).2.2.2.2.2.2.2.2.2.1
      have q10 : ∀ w', Below w1.heap.size w1 w' → w'.cell? ⟨w.heap.size + 1, 5, none⟩ = some (.int .i64 p1) := fun w' h => (HA1.out w' h).2.2.2.2.2.2.2.2.2.2.1
      have q11 : ∀ w', Below w1.heap.size w1 w' → w'.cell? ⟨w.heap.size + 1, 6, none⟩ = some (.bool so1) := fun w' h => (HA1.out w' h).2.2.2.2.2.2.2.2.2.2.2.1
      have q12 : ∀ w', Below w1.heap.size w1 w' → w'.cell? ⟨w.heap.size + 1, 7, none⟩ = some (.bool st1) := fun w' h => (HA1.out w' h).2.2.2.2.2.2.2.2.2.2.2.2.1
      have q13 : ∀ w', Below w1.heap.size w1 w' → w'.cell? ⟨w.heap.size + 1, 8, none⟩ = some (.int .i64 sv1) := fun w' h => (HA1.out w' h).2.2.2.2.2.2.2.2.2.2.2.2.2.1
      have q14 : ∀ w', Below w1.heap.size w1 w' → w'.cell? ⟨w.heap.size + 1, 9, none⟩ = some (.slice a1 pn1 c1) := fun w' h => (HA1.out w' h).2.2.2.2.2.2.2.2.2.2.2.2.2.2.1
      have q15 : ∀ w', Below w1.heap.size w1 w' → w'.cell? ⟨w.heap.size + 1, 10, none⟩ = some (.bool sx1) := fun w' h => (HA1.out w' h).2.2.2.2.2.2.2.2.2.2.2.2.2.2.2.1
      have q16 : ∀ w', Below w1.heap.size w1 w' → w'.cell? ⟨w.heap.size + 1, 11, none⟩ = some (.int .i64 sk1) := fun w' h => (HA1.out w' h).2.2.2.2.2.2.2.2.2.2.2.2.2.2.2.2.1
      have q17 : ∀ w', Below w1.heap.size w1 w' → w'.cell? ⟨w.heap.size + 1, 12, none⟩ = some (.int .i64 sy1) := fun w' h => (HA1.out w' h).2.2.2.2.2.2.2.2.2.2.2.2.2.2.2.2.2.1
      have q18 : ∀ w', Below w1.heap.size w1 w' → w'.cell? ⟨w.heap.size + 1, 13, none⟩ = some (.slice b1 fn1 d1) := fun w' h => (HA1.out w' h).2.2.2.2.2.2.2.2.2.2.2.2.2.2.2.2.2.2.1
      have q19 : ∀ w', Below w1.heap.size w1 w' → w'.cell? ⟨w.heap.size + 2, 0, none⟩ = some (.int .i64 e2) := fun w' h => (HA1.out w' h).2.2.2.2.2.2.2.2.2.2.2.2.2.2.2.2.2.2.2.1
      have q20 : ∀ w', Below w1.heap.size w1 w' → w'.cell? ⟨w.heap.size + 2, 1, none⟩ = some (.bool hl2) := fun w' h => (HA1.out w' h).2.2.2.2.2.2.2.2.2.2.2.2.2.2.2.2.2.2.2.2.1
      have q21 : ∀ w', Below w1.heap.size w1 w' → w'.cell? ⟨w.heap.size + 2, 2, none⟩ = some (.string l2) := fun w' h => (HA1.out w' h).2.2.2.2.2.2.2.2.2.2.2.2.2.2.2.2.2.2.2.2.2.1
      have q22 : ∀ w', Below w1.heap.size w1 w' → w'.cell? ⟨w.heap.size + 2, 3, none⟩ = some (.int .i64 v2) := fun w' h => (HA1.out w' h).2.2.2.2.2.2.2.2.2.2.2.2.2.2.2.2.2.2.2.2.2.2.1
      have q23 : ∀ w', Below w1.heap.size w1 w' → w'.cell? ⟨w.heap.size + 2, 4, none⟩ = some (.int .i64 o2) := fun w' h => (HA1.out w' h).2.2.2.2.2.2.2.2.2.2.2.2.2.2.2.2.2.2.2.2.2.2.2.1
      have q24 : ∀ w', Below w1.heap.size w1 w' → w'.cell? ⟨w.heap.size + 2, 5, none⟩ = some (.int .i64 p2) := fun w' h => (HA1.out w' h).2.2.2.2.2.2.2.2.2.2.2.2.2.2.2.2.2.2.2.2.2.2.2.2.1
      have q25 : ∀ w', Below w1.heap.size w1 w' → w'.cell? ⟨w.heap.size + 2, 6, none⟩ = some (.bool so2) := fun w' h => (HA1.out w' h).2.2.2.2.2.2.2.2.2.2.2.2.2.2.2.2.2.2.2.2.2.2.2.2.2.1
      have q26 : ∀ w', Below w1.heap.size w1 w' → w'.cell? ⟨w.heap.size + 2, 7, none⟩ = some (.bool st2) := fun w' h => (HA1.out w' h).2.2.2.2.2.2.2.2.2.2.2.2.2.2.2.2.2.2.2.2.2.2.2.2.2.2.1
      have q27 : ∀ w', Below w1.heap.size w1 w' → w'.cell? ⟨w.heap.size + 2, 8, none⟩ = some (.int .i64 sv2) := fun w' h => (HA1.out w' h).2.2.2.2.2.2.2.2.2.2.2.2.2.2.2.2.2.2.2.2.2.2.2.2.2.2.2.1
      have q28 : ∀ w', Below w1.heap.size w1 w' → w'.cell? ⟨w.heap.size + 2, 9, none⟩ = some (.slice a2 pn2 c2) := fun w' h => (HA1.out w' h).2.2.2.2.2.2.2.2.2.2.2.2.2.2.2.2.2.2.2.2.2.2.2.2.2.2.2.2.1
      have q29 : ∀ w', Below w1.heap.size w1 w' → w'.cell? ⟨w.heap.size + 2, 10, none⟩ = some (.bool sx2) := fun w' h => (HA1.out w' h).2.2.2.2.2.2.2.2.2.2.2.2.2.2.2.2.2.2.2.2.2.2.2.2.2.2.2.2.2.1
      have q30 : ∀ w', Below w1.heap.size w1 w' → w'.cell? ⟨w.heap.size + 2, 11, none⟩ = some (.int .i64 sk2) := fun w' h => (HA1.out w' h).2.2.2.2.2.2.2.2.2.2.2.2.2.2.2.2.2.2.2.2.2.2.2.2.2.2.2.2.2.2.1
      have q31 : ∀ w', Below w1.heap.size w1 w' → w'.cell? ⟨w.heap.size + 2, 12, none⟩ = some (.int .i64 sy2) := fun w' h => (HA1.out w' h).2.2.2.2.2.2.2.2.2.2.2.2.2.2.2.2.2.2.2.2.2.2.2.2.2.2.2.2.2.2.2.1
      have q32 : ∀ w', Below w1.heap.size w1 w' → w'.cell? ⟨w.heap.size + 2, 13, none⟩ = some (.slice b2 fn2 d2) := fun w' h => (HA1.out w' h).2.2.2.2.2.2.2.2.2.2.2.2.2.2.2.2.2.2.2.2.2.2.2.2.2.2.2.2.2.2.2.2
      have HBW : Hid (Below w.heap.size w w1) := hB1
      refine Code.wp_mono (Q := fun ex a0 w' => ex = Exit.normal ∧ ∃ (g : Nat) (w1a : Option Addr) (w1c : Nat) (w1b : Option Addr) (w1d : Nat) (w2a : Option Addr) (w2c : Nat) (w2b : Option Addr) (w2d : Nat), a0 = { tmps := #[.agg #[.int .i64 he, .int .i64 hp, .int .i64 ho, .int .i64 hn, .int .i64 hv], .string s, .agg #[.int .i64 e1, .bool hl1, .string l1, .int .i64 v1, .int .i64 o1, .int .i64 p1, .bool so1, .bool st1, .int .i64 sv1, .slice a1 pn1 c1, .bool sx1, .int .i64 sk1, .int .i64 sy1, .slice b1 fn1 d1], .agg #[.int .i64 e2, .bool hl2, .string l2, .int .i64 v2, .int .i64 o2, .int .i64 p2, .bool so2, .bool st2, .int .i64 sv2, .slice a2 pn2 c2, .bool sx2, .int .i64 sk2, .int .i64 sy2, .slice b2 fn2 d2], .pointer (some ⟨w.heap.size, 0, none⟩), undef, .pointer (some ⟨w.heap.size + 1, 0, none⟩), .pointer (some ⟨w.heap.size + 2, 0, none⟩), .bool false, .int .i64 z2, .pointer (some ⟨g, 0, none⟩), undef, undef, undef, .string s, .int .i64 (s.size : Int), .bool (decide ((1048576 : Int) < (s.size : Int))), .agg #[.int .i64 e1, .bool hl1, .string l1, .int .i64 v1, .int .i64 o1, .int .i64 p1, .bool so1, .bool st1, .int .i64 sv1, .slice a1 pn1 c1, .bool sx1, .int .i64 sk1, .int .i64 sy1, .slice b1 fn1 d1], .int .i64 1048576, .int .i64 z1, .int .i64 z1, .bool (decide (z1 < 0)), .agg #[.int .i64 e2, .bool hl2, .string l2, .int .i64 v2, .int .i64 o2, .int .i64 p2, .bool so2, .bool st2, .int .i64 sv2, .slice a2 pn2 c2, .bool sx2, .int .i64 sk2, .int .i64 sy2, .slice b2 fn2 d2], .int .i64 z1, .int .i64 z2, .int .i64 z2, .bool (decide (z2 < 0)), .agg #[.int .i64 he, .int .i64 hp, .int .i64 ho, .int .i64 hn, .int .i64 hv], .agg #[.int .i64 he, .int .i64 hp, .int .i64 ho, .int .i64 hn, .int .i64 hv], .string s, .agg #[.int .i64 e1, .bool hl1, .string l1, .int .i64 v1, .int .i64 o1, .int .i64 p1, .bool so1, .bool st1, .int .i64 sv1, .slice a1 pn1 c1, .bool sx1, .int .i64 sk1, .int .i64 sy1, .slice b1 fn1 d1], .agg #[.int .i64 e1, .bool hl1, .string l1, .int .i64 v1, .int .i64 o1, .int .i64 p1, .bool so1, .bool st1, .int .i64 sv1, .slice w1a pn1 w1c, .bool sx1, .int .i64 sk1, .int .i64 sy1, .slice w1b fn1 w1d], .agg #[.int .i64 e2, .bool hl2, .string l2, .int .i64 v2, .int .i64 o2, .int .i64 p2, .bool so2, .bool st2, .int .i64 sv2, .slice a2 pn2 c2, .bool sx2, .int .i64 sk2, .int .i64 sy2, .slice b2 fn2 d2], .agg #[.int .i64 e2, .bool hl2, .string l2, .int .i64 v2, .int .i64 o2, .int .i64 p2, .bool so2, .bool st2, .int .i64 sv2, .slice w2a pn2 w2c, .bool sx2, .int .i64 sk2, .int .i64 sy2, .slice w2b fn2 w2d], .agg #[.int .i64 C, .int .i64 V], undef, undef, undef, undef, undef, undef, undef, undef, undef, undef, undef, undef, undef, undef, undef, undef, undef, undef, undef, undef, undef, undef, undef, undef], defers := [] } ∧ IB w' g C V ∧ w1.heap.size ≤ g ∧ Below w1.heap.size w1 w') ?tail ?reg
      case reg =>
        refine wp_region_held_drew (S := fun w' => Below w1.heap.size w1 w') (by kernel_rfl) ((Below.refl _ _).drew) (fun hHeld => ?_)
        refine h_take (i := 0) (d := some 27) (v := ?vr1) (by rfl) (by kernel_rfl) (by kernel_rfl) (by kernel_rfl) (fun _ _ _ h => (by cases h.1)) (by rfl) ?hyr1 hHeld ?restr1
        case hyr1 =>
          intro o ho
          simp only [List.getElem?_toArray, List.getElem?_cons_zero, Option.some.injEq] at ho
          subst ho
          intro w' hSw
          first | (go_simp; done) | (go_simp; with_reducible rfl)
        try simp only [Act.put, List.setIfInBounds_toArray, List.set_cons_zero, List.set_cons_succ]
        refine h_take (i := 2) (d := some 29) (v := ?vr2) (by rfl) (by kernel_rfl) (by kernel_rfl) (by kernel_rfl) (fun _ _ _ h => (by cases h.1)) (by rfl) ?hyr2 hHeld ?restr2
        case hyr2 =>
          intro o ho
          simp only [List.getElem?_toArray, List.getElem?_cons_succ, List.getElem?_cons_zero, Option.some.injEq] at ho
          subst ho
          intro w' hSw
          first | (go_simp; done) | (go_simp; with_reducible rfl)
        try simp only [Act.put, List.setIfInBounds_toArray, List.set_cons_zero, List.set_cons_succ]
        refine h_take (i := 3) (d := some 30) (v := ?vr3) (by rfl) (by kernel_rfl) (by kernel_rfl) (by kernel_rfl) (fun _ _ _ h => (by cases h.1)) (by rfl) ?hyr3 hHeld ?restr3
        case hyr3 =>
          intro o ho
          simp only [List.getElem?_toArray, List.getElem?_cons_succ, List.getElem?_cons_zero, Option.some.injEq] at ho
          subst ho
          intro w' hSw
          first | (go_simp; done) | (go_simp; with_reducible rfl)
        try simp only [Act.put, List.setIfInBounds_toArray, List.set_cons_zero, List.set_cons_succ]
        refine h_take (i := 5) (d := some 32) (v := ?vr4) (by rfl) (by kernel_rfl) (by kernel_rfl) (by kernel_rfl) (fun _ _ _ h => (by cases h.1)) (by rfl) ?hyr4 hHeld ?restr4
        case hyr4 =>
          intro o ho
          simp only [List.getElem?_toArray, List.getElem?_cons_succ, List.getElem?_cons_zero, Option.some.injEq] at ho
          subst ho
          intro w' hSw
          first | (go_simp; done) | (go_simp; with_reducible rfl)
        try simp only [Act.put, List.setIfInBounds_toArray, List.set_cons_zero, List.set_cons_succ]
        refine wpAnyH_ready (rs := [1, 8]) (by kernel_rfl) (by simp) ?_
        refine AllReadyH.cons rfl (fun K hK => ?_) (AllReadyH.cons rfl (fun K hK => ?_) AllReadyH.nil)
        · go_simp
          refine (hTh _).mono ?_
          rintro x wq ⟨rfl, hbq⟩
          have hq := below_after_of hHeld hbq
          try (have G := G.below hbq)
          try clear hal
          refine hK.out _ _ ?_ (fun hHeld => ?_)
          · exact hq
          clear hK K
          try simp only [Act.put, List.setIfInBounds_toArray, List.set_cons_zero, List.set_cons_succ]
          refine wpAnyH_ready (rs := [4, 8]) (by kernel_rfl) (by simp) ?_
          refine AllReadyH.cons rfl (fun K hK => ?_) (AllReadyH.cons rfl (fun K hK => ?_) AllReadyH.nil)
          · go_simp
            refine (hT1 _ (below_after_of HBW.out hHeld)).mono ?_
            rintro x wq ⟨w1a, w1c, w1b, w1d, rfl, hbq, oo, oo'⟩
            have hq := below_after_of hHeld hbq
            try (have G := G.below hbq)
            try clear hal
            try (have Q1 := Q1.below hbq)
            try (have Q1' := Q1'.below hbq)
            try (have Q2 := Q2.below hbq)
            try (have Q2' := Q2'.below hbq)
            have Q1 := own_ints_se HPN1.out oo
            have Q1' := own_prs_se HFN1.out oo'
            clear oo oo'
            refine hK.out _ _ ?_ (fun hHeld => ?_)
            · exact hq
            clear hK K
            try simp only [Act.put, List.setIfInBounds_toArray, List.set_cons_zero, List.set_cons_succ]
            refine wpAnyH_ready (rs := [6, 8]) (by kernel_rfl) (by simp) ?_
            refine AllReadyH.cons rfl (fun K hK => ?_) (AllReadyH.cons rfl (fun K hK => ?_) AllReadyH.nil)
            · go_simp
              refine (hT2 _ (below_after_of HBW.out hHeld)).mono ?_
              rintro x wq ⟨w2a, w2c, w2b, w2d, rfl, hbq, oo, oo'⟩
              have hq := below_after_of hHeld hbq
              try (have G := G.below hbq)
              try clear hal
              try (have Q1 := Q1.below hbq)
              try (have Q1' := Q1'.below hbq)
              try (have Q2 := Q2.below hbq)
              try (have Q2' := Q2'.below hbq)
              have Q2 := own_ints_se HPN2.out oo
              have Q2' := own_prs_se HFN2.out oo'
              clear oo oo'
              refine hK.out _ _ ?_ (fun hHeld => ?_)
              · exact hq
              clear hK K
              try simp only [Act.put, List.setIfInBounds_toArray, List.set_cons_zero, List.set_cons_succ]
              refine wpAnyH_ready (rs := [7, 8]) (by kernel_rfl) (by simp) ?_
              refine AllReadyH.cons rfl (fun K hK => ?_) (AllReadyH.cons rfl (fun K hK => ?_) AllReadyH.nil)
              · go_simp
                refine (hS _ _ _ _ _ _ _ _ _ Q1 Q1' Q2 Q2').mono ?_
                rintro x wq ⟨rfl, hbq⟩
                have hq := below_after_of hHeld hbq
                try (have G := G.below hbq)
                try clear hal
                refine hK.out _ _ ?_ (fun hHeld => ?_)
                · exact hq
                clear hK K
                try simp only [Act.put, List.setIfInBounds_toArray, List.set_cons_zero, List.set_cons_succ]
                refine wpAnyH_ready (rs := [8]) (by kernel_rfl) (by simp) ?_
                refine AllReadyH.cons rfl (fun K hK => ?_) AllReadyH.nil
                · go_simp
                  first | (have G := IB.new wq 0 0; have hgg := hq.size; have hal := hq) | (have G := (IB.new w1 0 0).drew; have hgg := Nat.le_refl w1.heap.size)
                  try (have Q1 := Q1.below (one_new (.cells #[.int .i64 0, .int .i64 0] 58)))
                  try (have Q1' := Q1'.below (one_new (.cells #[.int .i64 0, .int .i64 0] 58)))
                  try (have Q2 := Q2.below (one_new (.cells #[.int .i64 0, .int .i64 0] 58)))
                  try (have Q2' := Q2'.below (one_new (.cells #[.int .i64 0, .int .i64 0] 58)))
                  refine hK.out _ _ ?_ (fun hHeld => ?_)
                  · exact below_after_of hHeld (one_new _)
                  clear hK K
                  try simp only [Act.put, List.setIfInBounds_toArray, List.set_cons_zero, List.set_cons_succ]
                  have ⟨vv0, vv1, uu0, uu1⟩ := two_cells G.h
                  have hgl := G.lt
                  refine wpAnyH_ready (rs := [9]) (by kernel_rfl) (by simp) ?_
                  refine AllReadyH.cons rfl (fun K hK => ?_) AllReadyH.nil
                  go_simp
                  refine hK.out _ _ ?_ (fun hHeld => ?_)
                  · first | exact below_after_of hal (one_new _) | exact (hHeld.setCell hgg _).setCell hgg _
                  clear hK K
                  try simp only [Act.put, List.setIfInBounds_toArray, List.set_cons_zero, List.set_cons_succ]
                  refine wpAnyH_done (by kernel_rfl) ?_ _
                  refine ⟨rfl, _, w1a, w1c, w1b, w1d, w2a, w2c, w2b, w2d, by with_reducible rfl, ?_, hgg, hHeld⟩
                  first | (have hx := hal; exact IB.new _ _ _) | exact G.set _ _
              · go_simp
                first | (have G := IB.new wq 0 0; have hgg := hq.size; have hal := hq) | (have G := (IB.new w1 0 0).drew; have hgg := Nat.le_refl w1.heap.size)
                try (have Q1 := Q1.below (one_new (.cells #[.int .i64 0, .int .i64 0] 58)))
                try (have Q1' := Q1'.below (one_new (.cells #[.int .i64 0, .int .i64 0] 58)))
                try (have Q2 := Q2.below (one_new (.cells #[.int .i64 0, .int .i64 0] 58)))
                try (have Q2' := Q2'.below (one_new (.cells #[.int .i64 0, .int .i64 0] 58)))
                refine hK.out _ _ ?_ (fun hHeld => ?_)
                · exact below_after_of hHeld (one_new _)
                clear hK K
                try simp only [Act.put, List.setIfInBounds_toArray, List.set_cons_zero, List.set_cons_succ]
                refine wpAnyH_ready (rs := [7]) (by kernel_rfl) (by simp) ?_
                refine AllReadyH.cons rfl (fun K hK => ?_) AllReadyH.nil
                · go_simp
                  refine (hS _ _ _ _ _ _ _ _ _ Q1 Q1' Q2 Q2').mono ?_
                  rintro x wq ⟨rfl, hbq⟩
                  have hq := below_after_of hHeld hbq
                  try (have G := G.below hbq)
                  try clear hal
                  refine hK.out _ _ ?_ (fun hHeld => ?_)
                  · exact hq
                  clear hK K
                  try simp only [Act.put, List.setIfInBounds_toArray, List.set_cons_zero, List.set_cons_succ]
                  have ⟨vv0, vv1, uu0, uu1⟩ := two_cells G.h
                  have hgl := G.lt
                  refine wpAnyH_ready (rs := [9]) (by kernel_rfl) (by simp) ?_
                  refine AllReadyH.cons rfl (fun K hK => ?_) AllReadyH.nil
                  go_simp
                  refine hK.out _ _ ?_ (fun hHeld => ?_)
                  · first | exact below_after_of hal (one_new _) | exact (hHeld.setCell hgg _).setCell hgg _
                  clear hK K
                  try simp only [Act.put, List.setIfInBounds_toArray, List.set_cons_zero, List.set_cons_succ]
                  refine wpAnyH_done (by kernel_rfl) ?_ _
                  refine ⟨rfl, _, w1a, w1c, w1b, w1d, w2a, w2c, w2b, w2d, by with_reducible rfl, ?_, hgg, hHeld⟩
                  first | (have hx := hal; exact IB.new _ _ _) | exact G.set _ _
            · go_simp
              first | (have G := IB.new wq 0 0; have hgg := hq.size; have hal := hq) | (have G := (IB.new w1 0 0).drew; have hgg := Nat.le_refl w1.heap.size)
              try (have Q1 := Q1.below (one_new (.cells #[.int .i64 0, .int .i64 0] 58)))
              try (have Q1' := Q1'.below (one_new (.cells #[.int .i64 0, .int .i64 0] 58)))
              try (have Q2 := Q2.below (one_new (.cells #[.int .i64 0, .int .i64 0] 58)))
              try (have Q2' := Q2'.below (one_new (.cells #[.int .i64 0, .int .i64 0] 58)))
              refine hK.out _ _ ?_ (fun hHeld => ?_)
              · exact below_after_of hHeld (one_new _)
              clear hK K
              try simp only [Act.put, List.setIfInBounds_toArray, List.set_cons_zero, List.set_cons_succ]
              refine wpAnyH_ready (rs := [6]) (by kernel_rfl) (by simp) ?_
              refine AllReadyH.cons rfl (fun K hK => ?_) AllReadyH.nil
              · go_simp
                refine (hT2 _ (below_after_of HBW.out hHeld)).mono ?_
                rintro x wq ⟨w2a, w2c, w2b, w2d, rfl, hbq, oo, oo'⟩
                have hq := below_after_of hHeld hbq
                try (have G := G.below hbq)
                try clear hal
                try (have Q1 := Q1.below hbq)
                try (have Q1' := Q1'.below hbq)
                try (have Q2 := Q2.below hbq)
                try (have Q2' := Q2'.below hbq)
                have Q2 := own_ints_se HPN2.out oo
                have Q2' := own_prs_se HFN2.out oo'
                clear oo oo'
                refine hK.out _ _ ?_ (fun hHeld => ?_)
                · exact hq
                clear hK K
                try simp only [Act.put, List.setIfInBounds_toArray, List.set_cons_zero, List.set_cons_succ]
                refine wpAnyH_ready (rs := [7]) (by kernel_rfl) (by simp) ?_
                refine AllReadyH.cons rfl (fun K hK => ?_) AllReadyH.nil
                · go_simp
                  refine (hS _ _ _ _ _ _ _ _ _ Q1 Q1' Q2 Q2').mono ?_
                  rintro x wq ⟨rfl, hbq⟩
                  have hq := below_after_of hHeld hbq
                  try (have G := G.below hbq)
                  try clear hal
                  refine hK.out _ _ ?_ (fun hHeld => ?_)
                  · exact hq
                  clear hK K
                  try simp only [Act.put, List.setIfInBounds_toArray, List.set_cons_zero, List.set_cons_succ]
                  have ⟨vv0, vv1, uu0, uu1⟩ := two_cells G.h
                  have hgl := G.lt
                  refine wpAnyH_ready (rs := [9]) (by kernel_rfl) (by simp) ?_
                  refine AllReadyH.cons rfl (fun K hK => ?_) AllReadyH.nil
                  go_simp
                  refine hK.out _ _ ?_ (fun hHeld => ?_)
                  · first | exact below_after_of hal (one_new _) | exact (hHeld.setCell hgg _).setCell hgg _
                  clear hK K
                  try simp only [Act.put, List.setIfInBounds_toArray, List.set_cons_zero, List.set_cons_succ]
                  refine wpAnyH_done (by kernel_rfl) ?_ _
                  refine ⟨rfl, _, w1a, w1c, w1b, w1d, w2a, w2c, w2b, w2d, by with_reducible rfl, ?_, hgg, hHeld⟩
                  first | (have hx := hal; exact IB.new _ _ _) | exact G.set _ _
          · go_simp
            first | (have G := IB.new wq 0 0; have hgg := hq.size; have hal := hq) | (have G := (IB.new w1 0 0).drew; have hgg := Nat.le_refl w1.heap.size)
            try (have Q1 := Q1.below (one_new (.cells #[.int .i64 0, .int .i64 0] 58)))
            try (have Q1' := Q1'.below (one_new (.cells #[.int .i64 0, .int .i64 0] 58)))
            try (have Q2 := Q2.below (one_new (.cells #[.int .i64 0, .int .i64 0] 58)))
            try (have Q2' := Q2'.below (one_new (.cells #[.int .i64 0, .int .i64 0] 58)))
            refine hK.out _ _ ?_ (fun hHeld => ?_)
            · exact below_after_of hHeld (one_new _)
            clear hK K
            try simp only [Act.put, List.setIfInBounds_toArray, List.set_cons_zero, List.set_cons_succ]
            refine wpAnyH_ready (rs := [4]) (by kernel_rfl) (by simp) ?_
            refine AllReadyH.cons rfl (fun K hK => ?_) AllReadyH.nil
            · go_simp
              refine (hT1 _ (below_after_of HBW.out hHeld)).mono ?_
              rintro x wq ⟨w1a, w1c, w1b, w1d, rfl, hbq, oo, oo'⟩
              have hq := below_after_of hHeld hbq
              try (have G := G.below hbq)
              try clear hal
              try (have Q1 := Q1.below hbq)
              try (have Q1' := Q1'.below hbq)
              try (have Q2 := Q2.below hbq)
              try (have Q2' := Q2'.below hbq)
              have Q1 := own_ints_se HPN1.out oo
              have Q1' := own_prs_se HFN1.out oo'
              clear oo oo'
              refine hK.out _ _ ?_ (fun hHeld => ?_)
              · exact hq
              clear hK K
              try simp only [Act.put, List.setIfInBounds_toArray, List.set_cons_zero, List.set_cons_succ]
              refine wpAnyH_ready (rs := [6]) (by kernel_rfl) (by simp) ?_
              refine AllReadyH.cons rfl (fun K hK => ?_) AllReadyH.nil
              · go_simp
                refine (hT2 _ (below_after_of HBW.out hHeld)).mono ?_
                rintro x wq ⟨w2a, w2c, w2b, w2d, rfl, hbq, oo, oo'⟩
                have hq := below_after_of hHeld hbq
                try (have G := G.below hbq)
                try clear hal
                try (have Q1 := Q1.below hbq)
                try (have Q1' := Q1'.below hbq)
                try (have Q2 := Q2.below hbq)
                try (have Q2' := Q2'.below hbq)
                have Q2 := own_ints_se HPN2.out oo
                have Q2' := own_prs_se HFN2.out oo'
                clear oo oo'
                refine hK.out _ _ ?_ (fun hHeld => ?_)
                · exact hq
                clear hK K
                try simp only [Act.put, List.setIfInBounds_toArray, List.set_cons_zero, List.set_cons_succ]
                refine wpAnyH_ready (rs := [7]) (by kernel_rfl) (by simp) ?_
                refine AllReadyH.cons rfl (fun K hK => ?_) AllReadyH.nil
                · go_simp
                  refine (hS _ _ _ _ _ _ _ _ _ Q1 Q1' Q2 Q2').mono ?_
                  rintro x wq ⟨rfl, hbq⟩
                  have hq := below_after_of hHeld hbq
                  try (have G := G.below hbq)
                  try clear hal
                  refine hK.out _ _ ?_ (fun hHeld => ?_)
                  · exact hq
                  clear hK K
                  try simp only [Act.put, List.setIfInBounds_toArray, List.set_cons_zero, List.set_cons_succ]
                  have ⟨vv0, vv1, uu0, uu1⟩ := two_cells G.h
                  have hgl := G.lt
                  refine wpAnyH_ready (rs := [9]) (by kernel_rfl) (by simp) ?_
                  refine AllReadyH.cons rfl (fun K hK => ?_) AllReadyH.nil
                  go_simp
                  refine hK.out _ _ ?_ (fun hHeld => ?_)
                  · first | exact below_after_of hal (one_new _) | exact (hHeld.setCell hgg _).setCell hgg _
                  clear hK K
                  try simp only [Act.put, List.setIfInBounds_toArray, List.set_cons_zero, List.set_cons_succ]
                  refine wpAnyH_done (by kernel_rfl) ?_ _
                  refine ⟨rfl, _, w1a, w1c, w1b, w1d, w2a, w2c, w2b, w2d, by with_reducible rfl, ?_, hgg, hHeld⟩
                  first | (have hx := hal; exact IB.new _ _ _) | exact G.set _ _
        · go_simp
          first | (have G := IB.new wq 0 0; have hgg := hq.size; have hal := hq) | (have G := (IB.new w1 0 0).drew; have hgg := Nat.le_refl w1.heap.size)
          try (have Q1 := Q1.below (one_new (.cells #[.int .i64 0, .int .i64 0] 58)))
          try (have Q1' := Q1'.below (one_new (.cells #[.int .i64 0, .int .i64 0] 58)))
          try (have Q2 := Q2.below (one_new (.cells #[.int .i64 0, .int .i64 0] 58)))
          try (have Q2' := Q2'.below (one_new (.cells #[.int .i64 0, .int .i64 0] 58)))
          refine hK.out _ _ ?_ (fun hHeld => ?_)
          · exact below_after_of hHeld (one_new _)
          clear hK K
          try simp only [Act.put, List.setIfInBounds_toArray, List.set_cons_zero, List.set_cons_succ]
          refine wpAnyH_ready (rs := [1]) (by kernel_rfl) (by simp) ?_
          refine AllReadyH.cons rfl (fun K hK => ?_) AllReadyH.nil
          · go_simp
            refine (hTh _).mono ?_
            rintro x wq ⟨rfl, hbq⟩
            have hq := below_after_of hHeld hbq
            try (have G := G.below hbq)
            try clear hal
            refine hK.out _ _ ?_ (fun hHeld => ?_)
            · exact hq
            clear hK K
            try simp only [Act.put, List.setIfInBounds_toArray, List.set_cons_zero, List.set_cons_succ]
            refine wpAnyH_ready (rs := [4]) (by kernel_rfl) (by simp) ?_
            refine AllReadyH.cons rfl (fun K hK => ?_) AllReadyH.nil
            · go_simp
              refine (hT1 _ (below_after_of HBW.out hHeld)).mono ?_
              rintro x wq ⟨w1a, w1c, w1b, w1d, rfl, hbq, oo, oo'⟩
              have hq := below_after_of hHeld hbq
              try (have G := G.below hbq)
              try clear hal
              try (have Q1 := Q1.below hbq)
              try (have Q1' := Q1'.below hbq)
              try (have Q2 := Q2.below hbq)
              try (have Q2' := Q2'.below hbq)
              have Q1 := own_ints_se HPN1.out oo
              have Q1' := own_prs_se HFN1.out oo'
              clear oo oo'
              refine hK.out _ _ ?_ (fun hHeld => ?_)
              · exact hq
              clear hK K
              try simp only [Act.put, List.setIfInBounds_toArray, List.set_cons_zero, List.set_cons_succ]
              refine wpAnyH_ready (rs := [6]) (by kernel_rfl) (by simp) ?_
              refine AllReadyH.cons rfl (fun K hK => ?_) AllReadyH.nil
              · go_simp
                refine (hT2 _ (below_after_of HBW.out hHeld)).mono ?_
                rintro x wq ⟨w2a, w2c, w2b, w2d, rfl, hbq, oo, oo'⟩
                have hq := below_after_of hHeld hbq
                try (have G := G.below hbq)
                try clear hal
                try (have Q1 := Q1.below hbq)
                try (have Q1' := Q1'.below hbq)
                try (have Q2 := Q2.below hbq)
                try (have Q2' := Q2'.below hbq)
                have Q2 := own_ints_se HPN2.out oo
                have Q2' := own_prs_se HFN2.out oo'
                clear oo oo'
                refine hK.out _ _ ?_ (fun hHeld => ?_)
                · exact hq
                clear hK K
                try simp only [Act.put, List.setIfInBounds_toArray, List.set_cons_zero, List.set_cons_succ]
                refine wpAnyH_ready (rs := [7]) (by kernel_rfl) (by simp) ?_
                refine AllReadyH.cons rfl (fun K hK => ?_) AllReadyH.nil
                · go_simp
                  refine (hS _ _ _ _ _ _ _ _ _ Q1 Q1' Q2 Q2').mono ?_
                  rintro x wq ⟨rfl, hbq⟩
                  have hq := below_after_of hHeld hbq
                  try (have G := G.below hbq)
                  try clear hal
                  refine hK.out _ _ ?_ (fun hHeld => ?_)
                  · exact hq
                  clear hK K
                  try simp only [Act.put, List.setIfInBounds_toArray, List.set_cons_zero, List.set_cons_succ]
                  have ⟨vv0, vv1, uu0, uu1⟩ := two_cells G.h
                  have hgl := G.lt
                  refine wpAnyH_ready (rs := [9]) (by kernel_rfl) (by simp) ?_
                  refine AllReadyH.cons rfl (fun K hK => ?_) AllReadyH.nil
                  go_simp
                  refine hK.out _ _ ?_ (fun hHeld => ?_)
                  · first | exact below_after_of hal (one_new _) | exact (hHeld.setCell hgg _).setCell hgg _
                  clear hK K
                  try simp only [Act.put, List.setIfInBounds_toArray, List.set_cons_zero, List.set_cons_succ]
                  refine wpAnyH_done (by kernel_rfl) ?_ _
                  refine ⟨rfl, _, w1a, w1c, w1b, w1d, w2a, w2c, w2b, w2d, by with_reducible rfl, ?_, hgg, hHeld⟩
                  first | (have hx := hal; exact IB.new _ _ _) | exact G.set _ _
      rintro _ _ W3 ⟨rfl, g3, w1a, w1c, w1b, w1d, w2a, w2c, w2b, w2d, rfl, P3, hg3, hb3⟩
      dsimp only
      have hB3 := below_after_of hB1 hb3
      have HA3 : Hid (∀ w', Below W3.heap.size W3 w' → w'.cell? ⟨w.heap.size, 0, none⟩ = some (.int .i64 he) ∧ w'.cell? ⟨w.heap.size, 1, none⟩ = some (.int .i64 hp) ∧ w'.cell? ⟨w.heap.size, 2, none⟩ = some (.int .i64 ho) ∧ w'.cell? ⟨w.heap.size, 3, none⟩ = some (.int .i64 hn) ∧ w'.cell? ⟨w.heap.size, 4, none⟩ = some (.int .i64 hv) ∧ w'.cell? ⟨w.heap.size + 1, 0, none⟩ = some (.int .i64 e1) ∧ w'.cell? ⟨w.heap.size + 1, 1, none⟩ = some (.bool hl1) ∧ w'.cell? ⟨w.heap.size + 1, 2, none⟩ = some (.string l1) ∧ w'.cell? ⟨w.heap.size + 1, 3, none⟩ = some (.int .i64 v1) ∧ w'.cell? ⟨w.heap.size + 1, 4, none⟩ = some (.int .i64 o1) ∧ w'.cell? ⟨w.heap.size + 1, 5, none⟩ = some (.int .i64 p1) ∧ w'.cell? ⟨w.heap.size + 1, 6, none⟩ = some (.bool so1) ∧ w'.cell? ⟨w.heap.size + 1, 7, none⟩ = some (.bool st1) ∧ w'.cell? ⟨w.heap.size + 1, 8, none⟩ = some (.int .i64 sv1) ∧ w'.cell? ⟨w.heap.size + 1, 9, none⟩ = some (.slice a1 pn1 c1) ∧ w'.cell? ⟨w.heap.size + 1, 10, none⟩ = some (.bool sx1) ∧ w'.cell? ⟨w.heap.size + 1, 11, none⟩ = some (.int .i64 sk1) ∧ w'.cell? ⟨w.heap.size + 1, 12, none⟩ = some (.int .i64 sy1) ∧ w'.cell? ⟨w.heap.size + 1, 13, none⟩ = some (.slice b1 fn1 d1) ∧ w'.cell? ⟨w.heap.size + 2, 0, none⟩ = some (.int .i64 e2) ∧ w'.cell? ⟨w.heap.size + 2, 1, none⟩ = some (.bool hl2) ∧ w'.cell? ⟨w.heap.size + 2, 2, none⟩ = some (.string l2) ∧ w'.cell? ⟨w.heap.size + 2, 3, none⟩ = some (.int .i64 v2) ∧ w'.cell? ⟨w.heap.size + 2, 4, none⟩ = some (.int .i64 o2) ∧ w'.cell? ⟨w.heap.size + 2, 5, none⟩ = some (.int .i64 p2) ∧ w'.cell? ⟨w.heap.size + 2, 6, none⟩ = some (.bool so2) ∧ w'.cell? ⟨w.heap.size + 2, 7, none⟩ = some (.bool st2) ∧ w'.cell? ⟨w.heap.size + 2, 8, none⟩ = some (.int .i64 sv2) ∧ w'.cell? ⟨w.heap.size + 2, 9, none⟩ = some (.slice a2 pn2 c2) ∧ w'.cell? ⟨w.heap.size + 2, 10, none⟩ = some (.bool sx2) ∧ w'.cell? ⟨w.heap.size + 2, 11, none⟩ = some (.int .i64 sk2) ∧ w'.cell? ⟨w.heap.size + 2, 12, none⟩ = some (.int .i64 sy2) ∧ w'.cell? ⟨w.heap.size + 2, 13, none⟩ = some (.slice b2 fn2 d2)) := fun w' hb => HA1.out _ (below_after_of hb3 hb)
      obtain ⟨cc0, cc1, cc2, cc3, cc4, cc5, cc6, cc7, cc8, cc9, cc10, cc11, cc12, cc13, cc14, cc15, cc16, cc17, cc18, cc19, cc20, cc21, cc22, cc23, cc24, cc25, cc26, cc27, cc28, cc29, cc30, cc31, cc32⟩ := HA3.out _ (Below.refl _ _)
      clear hS q0 q1 q2 q3 q4 q5 q6 q7 q8 q9 q10 q11 q12 q13 q14 q15 q16 q17 q18 q19 q20 q21 q22 q23 q24 q25 q26 q27 q28 q29 q30 q31 q32 HBW HA1 hB1
      go_wp2_with fail
      refine (hT1 _ hB3).mono ?_
      rintro x w4 ⟨x1a, x1c, x1b, x1d, rfl, hb4, o4, o4'⟩
      have J1 := own_ints_se HPN1.out o4
      have J1' := own_prs_se HFN1.out o4'
      obtain ⟨W4, hW4⟩ : ∃ W4, W4 = w4.alloc (.cells #[.int .i64 e1, .bool hl1, .string l1, .int .i64 v1, .int .i64 o1, .int .i64 p1, .bool so1, .bool st1, .int .i64 sv1, .slice x1a pn1 x1c, .bool sx1, .int .i64 sk1, .int .i64 sy1, .slice x1b fn1 x1d] 52) := ⟨_, rfl⟩
      have HW4 : Hid (w4.alloc (.cells #[.int .i64 e1, .bool hl1, .string l1, .int .i64 v1, .int .i64 o1, .int .i64 p1, .bool so1, .bool st1, .int .i64 sv1, .slice x1a pn1 x1c, .bool sx1, .int .i64 sk1, .int .i64 sy1, .slice x1b fn1 x1d] 52) = W4) := hW4.symm
      have hN4 : Below w4.heap.size w4 W4 := by rw [hW4]; exact one_new _
      have X4 : W4.heap[w4.heap.size]? = some (.cells #[.int .i64 e1, .bool hl1, .string l1, .int .i64 v1, .int .i64 o1, .int .i64 p1, .bool so1, .bool st1, .int .i64 sv1, .slice x1a pn1 x1c, .bool sx1, .int .i64 sk1, .int .i64 sy1, .slice x1b fn1 x1d] 52) := by rw [hW4]; exact heap_alloc_new _ _
      have hC4 : Below W3.heap.size W3 W4 := below_after_of hb4 hN4
      have hB4 := below_after_of hB3 hC4
      have J1 := J1.below hN4
      have J1' := J1'.below hN4
      clear o4 o4' hb4 hN4 hW4 cc0 cc1 cc2 cc3 cc4 cc5 cc6 cc7 cc8 cc9 cc10 cc11 cc12 cc13 cc14 cc15 cc16 cc17 cc18 cc19 cc20 cc21 cc22 cc23 cc24 cc25 cc26 cc27 cc28 cc29 cc30 cc31 cc32
      go_upto_region 12 with fail
      rw [HW4.out]
      obtain ⟨cc0, cc1, cc2, cc3, cc4, cc5, cc6, cc7, cc8, cc9, cc10, cc11, cc12, cc13, cc14, cc15, cc16, cc17, cc18, cc19, cc20, cc21, cc22, cc23, cc24, cc25, cc26, cc27, cc28, cc29, cc30, cc31, cc32⟩ := HA3.out _ hC4
      go_wp2_with fail
      refine (hT2 _ hB4).mono ?_
      rintro x w5 ⟨x2a, x2c, x2b, x2d, rfl, hb5, o5, o5'⟩
      have J2 := own_ints_se HPN2.out o5
      have J2' := own_prs_se HFN2.out o5'
      obtain ⟨W5, hW5⟩ : ∃ W5, W5 = w5.alloc (.cells #[.int .i64 e2, .bool hl2, .string l2, .int .i64 v2, .int .i64 o2, .int .i64 p2, .bool so2, .bool st2, .int .i64 sv2, .slice x2a pn2 x2c, .bool sx2, .int .i64 sk2, .int .i64 sy2, .slice x2b fn2 x2d] 52) := ⟨_, rfl⟩
      have HW5 : Hid (w5.alloc (.cells #[.int .i64 e2, .bool hl2, .string l2, .int .i64 v2, .int .i64 o2, .int .i64 p2, .bool so2, .bool st2, .int .i64 sv2, .slice x2a pn2 x2c, .bool sx2, .int .i64 sk2, .int .i64 sy2, .slice x2b fn2 x2d] 52) = W5) := hW5.symm
      have hN5 : Below w5.heap.size w5 W5 := by rw [hW5]; exact one_new _
      have X5 : W5.heap[w5.heap.size]? = some (.cells #[.int .i64 e2, .bool hl2, .string l2, .int .i64 v2, .int .i64 o2, .int .i64 p2, .bool so2, .bool st2, .int .i64 sv2, .slice x2a pn2 x2c, .bool sx2, .int .i64 sk2, .int .i64 sy2, .slice x2b fn2 x2d] 52) := by rw [hW5]; exact heap_alloc_new _ _
      have hb5' : Below W4.heap.size W4 W5 := below_after_of hb5 hN5
      have hC5 : Below W3.heap.size W3 W5 := below_after_of hC4 hb5'
      have hB5 := below_after_of hB3 hC5
      have J2 := J2.below hN5
      have J2' := J2'.below hN5
      have J1 := J1.below hb5'
      have J1' := J1'.below hb5'
      have X4 := (hb5'.block _ (Array.getElem?_eq_some_iff.1 X4).1).trans X4
      have P5 := P3.below hC5
      have HJ : Hid (∀ w', Below W5.heap.size W5 w' → Ints .i64 w' (.slice x1a pn1 x1c) ps1 ∧ Prs w' (.slice x1b fn1 x1d) m1 ∧ Ints .i64 w' (.slice x2a pn2 x2c) ps2 ∧ Prs w' (.slice x2b fn2 x2d) m2) := fun w' h => ⟨J1.below h, J1'.below h, J2.below h, J2'.below h⟩
      have HA5 : Hid (∀ w', Below W5.heap.size W5 w' → w'.cell? ⟨w.heap.size, 0, none⟩ = some (.int .i64 he) ∧ w'.cell? ⟨w.heap.size, 1, none⟩ = some (.int .i64 hp) ∧ w'.cell? ⟨w.heap.size, 2, none⟩ = some (.int .i64 ho) ∧ w'.cell? ⟨w.heap.size, 3, none⟩ = some (.int .i64 hn) ∧ w'.cell? ⟨w.heap.size, 4, none⟩ = some (.int .i64 hv) ∧ w'.cell? ⟨w.heap.size + 1, 0, none⟩ = some (.int .i64 e1) ∧ w'.cell? ⟨w.heap.size + 1, 1, none⟩ = some (.bool hl1) ∧ w'.cell? ⟨w.heap.size + 1, 2, none⟩ = some (.string l1) ∧ w'.cell? ⟨w.heap.size + 1, 3, none⟩ = some (.int .i64 v1) ∧ w'.cell? ⟨w.heap.size + 1, 4, none⟩ = some (.int .i64 o1) ∧ w'.cell? ⟨w.heap.size + 1, 5, none⟩ = some (.int .i64 p1) ∧ w'.cell? ⟨w.heap.size + 1, 6, none⟩ = some (.bool so1) ∧ w'.cell? ⟨w.heap.size + 1, 7, none⟩ = some (.bool st1) ∧ w'.cell? ⟨w.heap.size + 1, 8, none⟩ = some (.int .i64 sv1) ∧ w'.cell? ⟨w.heap.size + 1, 9, none⟩ = some (.slice a1 pn1 c1) ∧ w'.cell? ⟨w.heap.size + 1, 10, none⟩ = some (.bool sx1) ∧ w'.cell? ⟨w.heap.size + 1, 11, none⟩ = some (.int .i64 sk1) ∧ w'.cell? ⟨w.heap.size + 1, 12, none⟩ = some (.int .i64 sy1) ∧ w'.cell? ⟨w.heap.size + 1, 13, none⟩ = some (.slice b1 fn1 d1) ∧ w'.cell? ⟨w.heap.size + 2, 0, none⟩ = some (.int .i64 e2) ∧ w'.cell? ⟨w.heap.size + 2, 1, none⟩ = some (.bool hl2) ∧ w'.cell? ⟨w.heap.size + 2, 2, none⟩ = some (.string l2) ∧ w'.cell? ⟨w.heap.size + 2, 3, none⟩ = some (.int .i64 v2) ∧ w'.cell? ⟨w.heap.size + 2, 4, none⟩ = some (.int .i64 o2) ∧ w'.cell? ⟨w.heap.size + 2, 5, none⟩ = some (.int .i64 p2) ∧ w'.cell? ⟨w.heap.size + 2, 6, none⟩ = some (.bool so2) ∧ w'.cell? ⟨w.heap.size + 2, 7, none⟩ = some (.bool st2) ∧ w'.cell? ⟨w.heap.size + 2, 8, none⟩ = some (.int .i64 sv2) ∧ w'.cell? ⟨w.heap.size + 2, 9, none⟩ = some (.slice a2 pn2 c2) ∧ w'.cell? ⟨w.heap.size + 2, 10, none⟩ = some (.bool sx2) ∧ w'.cell? ⟨w.heap.size + 2, 11, none⟩ = some (.int .i64 sk2) ∧ w'.cell? ⟨w.heap.size + 2, 12, none⟩ = some (.int .i64 sy2) ∧ w'.cell? ⟨w.heap.size + 2, 13, none⟩ = some (.slice b2 fn2 d2)) := fun w' hb => HA3.out _ (below_after_of hC5 hb)
      have HX5 : Hid (∀ w', Below W5.heap.size W5 w' → w'.heap[w4.heap.size]? = some (.cells #[.int .i64 e1, .bool hl1, .string l1, .int .i64 v1, .int .i64 o1, .int .i64 p1, .bool so1, .bool st1, .int .i64 sv1, .slice x1a pn1 x1c, .bool sx1, .int .i64 sk1, .int .i64 sy1, .slice x1b fn1 x1d] 52) ∧ w'.heap[w5.heap.size]? = some (.cells #[.int .i64 e2, .bool hl2, .string l2, .int .i64 v2, .int .i64 o2, .int .i64 p2, .bool so2, .bool st2, .int .i64 sv2, .slice x2a pn2 x2c, .bool sx2, .int .i64 sk2, .int .i64 sy2, .slice x2b fn2 x2d] 52)) := fun w' hb => ⟨(hb.block _ (Array.getElem?_eq_some_iff.1 X4).1).trans X4, (hb.block _ (Array.getElem?_eq_some_iff.1 X5).1).trans X5⟩
      clear o5 o5' hb5 hN5 hW5 hb5' J1 J1' J2 J2' X4 X5 hC4 hB4 P3 HA3 cc0 cc1 cc2 cc3 cc4 cc5 cc6 cc7 cc8 cc9 cc10 cc11 cc12 cc13 cc14 cc15 cc16 cc17 cc18 cc19 cc20 cc21 cc22 cc23 cc24 cc25 cc26 cc27 cc28 cc29 cc30 cc31 cc32
      go_upto_region 13 with fail
      rw [HW5.out]
      have q0 : ∀ w', Below W5.heap.size W5 w' → w'.cell? ⟨w.heap.size, 0, none⟩ = some (.int .i64 he) := fun w' h => (HA5.out w' h).1
      have q1 : ∀ w', Below W5.heap.size W5 w' → w'.cell? ⟨w.heap.size, 1, none⟩ = some (.int .i64 hp) := fun w' h => (HA5.out w' h).2.1
      have q2 : ∀ w', Below W5.heap.size W5 w' → w'.cell? ⟨w.heap.size, 2, none⟩ = some (.int .i64 ho) := fun w' h => (HA5.out w' h).2.2.1
      have q3 : ∀ w', Below W5.heap.size W5 w' → w'.cell? ⟨w.heap.size, 3, none⟩ = some (.int .i64 hn) := fun w' h => (HA5.out w' h).2.2.2.1
      have q4 : ∀ w', Below W5.heap.size W5 w' → w'.cell? ⟨w.heap.size, 4, none⟩ = some (.int .i64 hv) := fun w' h => (HA5.out w' h).2.2.2.2.1
      have q5 : ∀ w', Below W5.heap.size W5 w' → w'.cell? ⟨w.heap.size + 1, 0, none⟩ = some (.int .i64 e1) := fun w' h => (HA5.out w' h).2.2.2.2.2.1
      have q6 : ∀ w', Below W5.heap.size W5 w' → w'.cell? ⟨w.heap.size + 1, 1, none⟩ = some (.bool hl1) := fun w' h => (HA5.out w' h).2.2.2.2.2.2.1
      have q7 : ∀ w', Below W5.heap.size W5 w' → w'.cell? ⟨w.heap.size + 1, 2, none⟩ = some (.string l1) := fun w' h => (HA5.out w' h).2.2.2.2.2.2.2.1
      have q8 : ∀ w', Below W5.heap.size W5 w' → w'.cell? ⟨w.heap.size + 1, 3, none⟩ = some (.int .i64 v1) := fun w' h => (HA5.out w' h).2.2.2.2.2.2.2.2.1
      have q9 : ∀ w', Below W5.heap.size W5 w' → w'.cell? ⟨w.heap.size + 1, 4, none⟩ = some (.int .i64 o1) := fun w' h => (HA5.out w' h).2.2.2.2.2.2.2.2.2.1
      have q10 : ∀ w', Below W5.heap.size W5 w' → w'.cell? ⟨w.heap.size + 1, 5, none⟩ = some (.int .i64 p1) := fun w' h => (HA5.out w' h).2.2.2.2.2.2.2.2.2.2.1
      have q11 : ∀ w', Below W5.heap.size W5 w' → w'.cell? ⟨w.heap.size + 1, 6, none⟩ = some (.bool so1) := fun w' h => (HA5.out w' h).2.2.2.2.2.2.2.2.2.2.2.1
      have q12 : ∀ w', Below W5.heap.size W5 w' → w'.cell? ⟨w.heap.size + 1, 7, none⟩ = some (.bool st1) := fun w' h => (HA5.out w' h).2.2.2.2.2.2.2.2.2.2.2.2.1
      have q13 : ∀ w', Below W5.heap.size W5 w' → w'.cell? ⟨w.heap.size + 1, 8, none⟩ = some (.int .i64 sv1) := fun w' h => (HA5.out w' h).2.2.2.2.2.2.2.2.2.2.2.2.2.1
      have q14 : ∀ w', Below W5.heap.size W5 w' → w'.cell? ⟨w.heap.size + 1, 9, none⟩ = some (.slice a1 pn1 c1) := fun w' h => (HA5.out w' h).2.2.2.2.2.2.2.2.2.2.2.2.2.2.1
      have q15 : ∀ w', Below W5.heap.size W5 w' → w'.cell? ⟨w.heap.size + 1, 10, none⟩ = some (.bool sx1) := fun w' h => (HA5.out w' h).2.2.2.2.2.2.2.2.2.2.2.2.2.2.2.1
      have q16 : ∀ w', Below W5.heap.size W5 w' → w'.cell? ⟨w.heap.size + 1, 11, none⟩ = some (.int .i64 sk1) := fun w' h => (HA5.out w' h).2.2.2.2.2.2.2.2.2.2.2.2.2.2.2.2.1
      have q17 : ∀ w', Below W5.heap.size W5 w' → w'.cell? ⟨w.heap.size + 1, 12, none⟩ = some (.int .i64 sy1) := fun w' h => (HA5.out w' h).2.2.2.2.2.2.2.2.2.2.2.2.2.2.2.2.2.1
      have q18 : ∀ w', Below W5.heap.size W5 w' → w'.cell? ⟨w.heap.size + 1, 13, none⟩ = some (.slice b1 fn1 d1) := fun w' h => (HA5.out w' h).2.2.2.2.2.2.2.2.2.2.2.2.2.2.2.2.2.2.1
      have q19 : ∀ w', Below W5.heap.size W5 w' → w'.cell? ⟨w.heap.size + 2, 0, none⟩ = some (.int .i64 e2) := fun w' h => (HA5.out w' h).2.2.2.2.2.2.2.2.2.2.2.2.2.2.2.2.2.2.2.1
      have q20 : ∀ w', Below W5.heap.size W5 w' → w'.cell? ⟨w.heap.size + 2, 1, none⟩ = some (.bool hl2) := fun w' h => (HA5.out w' h).2.2.2.2.2.2.2.2.2.2.2.2.2.2.2.2.2.2.2.2.1
      have q21 : ∀ w', Below W5.heap.size W5 w' → w'.cell? ⟨w.heap.size + 2, 2, none⟩ = some (.string l2) := fun w' h => (HA5.out w' h).2.2.2.2.2.2.2.2.2.2.2.2.2.2.2.2.2.2.2.2.2.1
      have q22 : ∀ w', Below W5.heap.size W5 w' → w'.cell? ⟨w.heap.size + 2, 3, none⟩ = some (.int .i64 v2) := fun w' h => (HA5.out w' h).2.2.2.2.2.2.2.2.2.2.2.2.2.2.2.2.2.2.2.2.2.2.1
      have q23 : ∀ w', Below W5.heap.size W5 w' → w'.cell? ⟨w.heap.size + 2, 4, none⟩ = some (.int .i64 o2) := fun w' h => (HA5.out w' h).2.2.2.2.2.2.2.2.2.2.2.2.2.2.2.2.2.2.2.2.2.2.2.1
      have q24 : ∀ w', Below W5.heap.size W5 w' → w'.cell? ⟨w.heap.size + 2, 5, none⟩ = some (.int .i64 p2) := fun w' h => (HA5.out w' h).2.2.2.2.2.2.2.2.2.2.2.2.2.2.2.2.2.2.2.2.2.2.2.2.1
      have q25 : ∀ w', Below W5.heap.size W5 w' → w'.cell? ⟨w.heap.size + 2, 6, none⟩ = some (.bool so2) := fun w' h => (HA5.out w' h).2.2.2.2.2.2.2.2.2.2.2.2.2.2.2.2.2.2.2.2.2.2.2.2.2.1
      have q26 : ∀ w', Below W5.heap.size W5 w' → w'.cell? ⟨w.heap.size + 2, 7, none⟩ = some (.bool st2) := fun w' h => (HA5.out w' h).2.2.2.2.2.2.2.2.2.2.2.2.2.2.2.2.2.2.2.2.2.2.2.2.2.2.1
      have q27 : ∀ w', Below W5.heap.size W5 w' → w'.cell? ⟨w.heap.size + 2, 8, none⟩ = some (.int .i64 sv2) := fun w' h => (HA5.out w' h).2.2.2.2.2.2.2.2.2.2.2.2.2.2.2.2.2.2.2.2.2.2.2.2.2.2.2.1
      have q28 : ∀ w', Below W5.heap.size W5 w' → w'.cell? ⟨w.heap.size + 2, 9, none⟩ = some (.slice a2 pn2 c2) := fun w' h => (HA5.out w' h).2.2.2.2.2.2.2.2.2.2.2.2.2.2.2.2.2.2.2.2.2.2.2.2.2.2.2.2.1
      have q29 : ∀ w', Below W5.heap.size W5 w' → w'.cell? ⟨w.heap.size + 2, 10, none⟩ = some (.bool sx2) := fun w' h => (HA5.out w' h).2.2.2.2.2.2.2.2.2.2.2.2.2.2.2.2.2.2.2.2.2.2.2.2.2.2.2.2.2.1
      have q30 : ∀ w', Below W5.heap.size W5 w' → w'.cell? ⟨w.heap.size + 2, 11, none⟩ = some (.int .i64 sk2) := fun w' h => (HA5.out w' h).2.2.2.2.2.2.2.2.2.2.2.2.2.2.2.2.2.2.2.2.2.2.2.2.2.2.2.2.2.2.1
      have q31 : ∀ w', Below W5.heap.size W5 w' → w'.cell? ⟨w.heap.size + 2, 12, none⟩ = some (.int .i64 sy2) := fun w' h => (HA5.out w' h).2.2.2.2.2.2.2.2.2.2.2.2.2.2.2.2.2.2.2.2.2.2.2.2.2.2.2.2.2.2.2.1
      have q32 : ∀ w', Below W5.heap.size W5 w' → w'.cell? ⟨w.heap.size + 2, 13, none⟩ = some (.slice b2 fn2 d2) := fun w' h => (HA5.out w' h).2.2.2.2.2.2.2.2.2.2.2.2.2.2.2.2.2.2.2.2.2.2.2.2.2.2.2.2.2.2.2.2
      have r0 : ∀ w', Below W5.heap.size W5 w' → w'.cell? ⟨w4.heap.size, 0, none⟩ = some (.int .i64 e1) := fun w' h => (fourteen (HX5.out w' h).1).1.1
      have r1 : ∀ w', Below W5.heap.size W5 w' → w'.cell? ⟨w4.heap.size, 1, none⟩ = some (.bool hl1) := fun w' h => (fourteen (HX5.out w' h).1).1.2.1
      have r2 : ∀ w', Below W5.heap.size W5 w' → w'.cell? ⟨w4.heap.size, 2, none⟩ = some (.string l1) := fun w' h => (fourteen (HX5.out w' h).1).1.2.2.1
      have r3 : ∀ w', Below W5.heap.size W5 w' → w'.cell? ⟨w4.heap.size, 3, none⟩ = some (.int .i64 v1) := fun w' h => (fourteen (HX5.out w' h).1).1.2.2.2.1
      have r4 : ∀ w', Below W5.heap.size W5 w' → w'.cell? ⟨w4.heap.size, 4, none⟩ = some (.int .i64 o1) := fun w' h => (fourteen (HX5.out w' h).1).1.2.2.2.2.1
      have r5 : ∀ w', Below W5.heap.size W5 w' → w'.cell? ⟨w4.heap.size, 5, none⟩ = some (.int .i64 p1) := fun w' h => (fourteen (HX5.out w' h).1).1.2.2.2.2.2.1
      have r6 : ∀ w', Below W5.heap.size W5 w' → w'.cell? ⟨w4.heap.size, 6, none⟩ = some (.bool so1) := fun w' h => (fourteen (HX5.out w' h).1).1.2.2.2.2.2.2.1
      have r7 : ∀ w', Below W5.heap.size W5 w' → w'.cell? ⟨w4.heap.size, 7, none⟩ = some (.bool st1) := fun w' h => (fourteen (HX5.out w' h).1).1.2.2.2.2.2.2.2.1
      have r8 : ∀ w', Below W5.heap.size W5 w' → w'.cell? ⟨w4.heap.size, 8, none⟩ = some (.int .i64 sv1) := fun w' h => (fourteen (HX5.out w' h).1).1.2.2.2.2.2.2.2.2.1
      have r9 : ∀ w', Below W5.heap.size W5 w' → w'.cell? ⟨w4.heap.size, 9, none⟩ = some (.slice x1a pn1 x1c) := fun w' h => (fourteen (HX5.out w' h).1).1.2.2.2.2.2.2.2.2.2.1
      have r10 : ∀ w', Below W5.heap.size W5 w' → w'.cell? ⟨w4.heap.size, 10, none⟩ = some (.bool sx1) := fun w' h => (fourteen (HX5.out w' h).1).1.2.2.2.2.2.2.2.2.2.2.1
      have r11 : ∀ w', Below W5.heap.size W5 w' → w'.cell? ⟨w4.heap.size, 11, none⟩ = some (.int .i64 sk1) := fun w' h => (fourteen (HX5.out w' h).1).1.2.2.2.2.2.2.2.2.2.2.2.1
      have r12 : ∀ w', Below W5.heap.size W5 w' → w'.cell? ⟨w4.heap.size, 12, none⟩ = some (.int .i64 sy1) := fun w' h => (fourteen (HX5.out w' h).1).1.2.2.2.2.2.2.2.2.2.2.2.2.1
      have r13 : ∀ w', Below W5.heap.size W5 w' → w'.cell? ⟨w4.heap.size, 13, none⟩ = some (.slice x1b fn1 x1d) := fun w' h => (fourteen (HX5.out w' h).1).1.2.2.2.2.2.2.2.2.2.2.2.2.2
      have s0 : ∀ w', Below W5.heap.size W5 w' → w'.cell? ⟨w5.heap.size, 0, none⟩ = some (.int .i64 e2) := fun w' h => (fourteen (HX5.out w' h).2).1.1
      have s1 : ∀ w', Below W5.heap.size W5 w' → w'.cell? ⟨w5.heap.size, 1, none⟩ = some (.bool hl2) := fun w' h => (fourteen (HX5.out w' h).2).1.2.1
      have s2 : ∀ w', Below W5.heap.size W5 w' → w'.cell? ⟨w5.heap.size, 2, none⟩ = some (.string l2) := fun w' h => (fourteen (HX5.out w' h).2).1.2.2.1
      have s3 : ∀ w', Below W5.heap.size W5 w' → w'.cell? ⟨w5.heap.size, 3, none⟩ = some (.int .i64 v2) := fun w' h => (fourteen (HX5.out w' h).2).1.2.2.2.1
      have s4 : ∀ w', Below W5.heap.size W5 w' → w'.cell? ⟨w5.heap.size, 4, none⟩ = some (.int .i64 o2) := fun w' h => (fourteen (HX5.out w' h).2).1.2.2.2.2.1
      have s5 : ∀ w', Below W5.heap.size W5 w' → w'.cell? ⟨w5.heap.size, 5, none⟩ = some (.int .i64 p2) := fun w' h => (fourteen (HX5.out w' h).2).1.2.2.2.2.2.1
      have s6 : ∀ w', Below W5.heap.size W5 w' → w'.cell? ⟨w5.heap.size, 6, none⟩ = some (.bool so2) := fun w' h => (fourteen (HX5.out w' h).2).1.2.2.2.2.2.2.1
      have s7 : ∀ w', Below W5.heap.size W5 w' → w'.cell? ⟨w5.heap.size, 7, none⟩ = some (.bool st2) := fun w' h => (fourteen (HX5.out w' h).2).1.2.2.2.2.2.2.2.1
      have s8 : ∀ w', Below W5.heap.size W5 w' → w'.cell? ⟨w5.heap.size, 8, none⟩ = some (.int .i64 sv2) := fun w' h => (fourteen (HX5.out w' h).2).1.2.2.2.2.2.2.2.2.1
      have s9 : ∀ w', Below W5.heap.size W5 w' → w'.cell? ⟨w5.heap.size, 9, none⟩ = some (.slice x2a pn2 x2c) := fun w' h => (fourteen (HX5.out w' h).2).1.2.2.2.2.2.2.2.2.2.1
      have s10 : ∀ w', Below W5.heap.size W5 w' → w'.cell? ⟨w5.heap.size, 10, none⟩ = some (.bool sx2) := fun w' h => (fourteen (HX5.out w' h).2).1.2.2.2.2.2.2.2.2.2.2.1
      have s11 : ∀ w', Below W5.heap.size W5 w' → w'.cell? ⟨w5.heap.size, 11, none⟩ = some (.int .i64 sk2) := fun w' h => (fourteen (HX5.out w' h).2).1.2.2.2.2.2.2.2.2.2.2.2.1
      have s12 : ∀ w', Below W5.heap.size W5 w' → w'.cell? ⟨w5.heap.size, 12, none⟩ = some (.int .i64 sy2) := fun w' h => (fourteen (HX5.out w' h).2).1.2.2.2.2.2.2.2.2.2.2.2.2.1
      have s13 : ∀ w', Below W5.heap.size W5 w' → w'.cell? ⟨w5.heap.size, 13, none⟩ = some (.slice x2b fn2 x2d) := fun w' h => (fourteen (HX5.out w' h).2).1.2.2.2.2.2.2.2.2.2.2.2.2.2
      refine Code.wp_mono (Q := fun ex a0 w' => ex = Exit.normal ∧ ∃ (g : Nat), a0 = { tmps := #[.agg #[.int .i64 he, .int .i64 hp, .int .i64 ho, .int .i64 hn, .int .i64 hv], .string s, .agg #[.int .i64 e1, .bool hl1, .string l1, .int .i64 v1, .int .i64 o1, .int .i64 p1, .bool so1, .bool st1, .int .i64 sv1, .slice a1 pn1 c1, .bool sx1, .int .i64 sk1, .int .i64 sy1, .slice b1 fn1 d1], .agg #[.int .i64 e2, .bool hl2, .string l2, .int .i64 v2, .int .i64 o2, .int .i64 p2, .bool so2, .bool st2, .int .i64 sv2, .slice a2 pn2 c2, .bool sx2, .int .i64 sk2, .int .i64 sy2, .slice b2 fn2 d2], .pointer (some ⟨w.heap.size, 0, none⟩), undef, .pointer (some ⟨w.heap.size + 1, 0, none⟩), .pointer (some ⟨w.heap.size + 2, 0, none⟩), .bool false, .int .i64 z2, .pointer (some ⟨g3, 0, none⟩), .pointer (some ⟨w4.heap.size, 0, none⟩), .pointer (some ⟨w5.heap.size, 0, none⟩), .pointer (some ⟨g, 0, none⟩), .string s, .int .i64 (s.size : Int), .bool (decide ((1048576 : Int) < (s.size : Int))), .agg #[.int .i64 e1, .bool hl1, .string l1, .int .i64 v1, .int .i64 o1, .int .i64 p1, .bool so1, .bool st1, .int .i64 sv1, .slice a1 pn1 c1, .bool sx1, .int .i64 sk1, .int .i64 sy1, .slice b1 fn1 d1], .int .i64 1048576, .int .i64 z1, .int .i64 z1, .bool (decide (z1 < 0)), .agg #[.int .i64 e2, .bool hl2, .string l2, .int .i64 v2, .int .i64 o2, .int .i64 p2, .bool so2, .bool st2, .int .i64 sv2, .slice a2 pn2 c2, .bool sx2, .int .i64 sk2, .int .i64 sy2, .slice b2 fn2 d2], .int .i64 z1, .int .i64 z2, .int .i64 z2, .bool (decide (z2 < 0)), .agg #[.int .i64 he, .int .i64 hp, .int .i64 ho, .int .i64 hn, .int .i64 hv], .agg #[.int .i64 he, .int .i64 hp, .int .i64 ho, .int .i64 hn, .int .i64 hv], .string s, .agg #[.int .i64 e1, .bool hl1, .string l1, .int .i64 v1, .int .i64 o1, .int .i64 p1, .bool so1, .bool st1, .int .i64 sv1, .slice a1 pn1 c1, .bool sx1, .int .i64 sk1, .int .i64 sy1, .slice b1 fn1 d1], .agg #[.int .i64 e1, .bool hl1, .string l1, .int .i64 v1, .int .i64 o1, .int .i64 p1, .bool so1, .bool st1, .int .i64 sv1, .slice w1a pn1 w1c, .bool sx1, .int .i64 sk1, .int .i64 sy1, .slice w1b fn1 w1d], .agg #[.int .i64 e2, .bool hl2, .string l2, .int .i64 v2, .int .i64 o2, .int .i64 p2, .bool so2, .bool st2, .int .i64 sv2, .slice a2 pn2 c2, .bool sx2, .int .i64 sk2, .int .i64 sy2, .slice b2 fn2 d2], .agg #[.int .i64 e2, .bool hl2, .string l2, .int .i64 v2, .int .i64 o2, .int .i64 p2, .bool so2, .bool st2, .int .i64 sv2, .slice w2a pn2 w2c, .bool sx2, .int .i64 sk2, .int .i64 sy2, .slice w2b fn2 w2d], .agg #[.int .i64 C, .int .i64 V], .agg #[.int .i64 e1, .bool hl1, .string l1, .int .i64 v1, .int .i64 o1, .int .i64 p1, .bool so1, .bool st1, .int .i64 sv1, .slice a1 pn1 c1, .bool sx1, .int .i64 sk1, .int .i64 sy1, .slice b1 fn1 d1], .agg #[.int .i64 e1, .bool hl1, .string l1, .int .i64 v1, .int .i64 o1, .int .i64 p1, .bool so1, .bool st1, .int .i64 sv1, .slice x1a pn1 x1c, .bool sx1, .int .i64 sk1, .int .i64 sy1, .slice x1b fn1 x1d], .agg #[.int .i64 e2, .bool hl2, .string l2, .int .i64 v2, .int .i64 o2, .int .i64 p2, .bool so2, .bool st2, .int .i64 sv2, .slice a2 pn2 c2, .bool sx2, .int .i64 sk2, .int .i64 sy2, .slice b2 fn2 d2], .agg #[.int .i64 e2, .bool hl2, .string l2, .int .i64 v2, .int .i64 o2, .int .i64 p2, .bool so2, .bool st2, .int .i64 sv2, .slice x2a pn2 x2c, .bool sx2, .int .i64 sk2, .int .i64 sy2, .slice x2b fn2 x2d], .agg #[.int .i64 he, .int .i64 hp, .int .i64 ho, .int .i64 hn, .int .i64 hv], .agg #[.int .i64 he, .int .i64 hp, .int .i64 ho, .int .i64 hn, .int .i64 hv], .string s, .agg #[.int .i64 e1, .bool hl1, .string l1, .int .i64 v1, .int .i64 o1, .int .i64 p1, .bool so1, .bool st1, .int .i64 sv1, .slice x1a pn1 x1c, .bool sx1, .int .i64 sk1, .int .i64 sy1, .slice x1b fn1 x1d], .agg #[.int .i64 e2, .bool hl2, .string l2, .int .i64 v2, .int .i64 o2, .int .i64 p2, .bool so2, .bool st2, .int .i64 sv2, .slice x2a pn2 x2c, .bool sx2, .int .i64 sk2, .int .i64 sy2, .slice x2b fn2 x2d], .agg #[.int .i64 C, .int .i64 V], undef, undef, undef, undef, undef, undef, undef, undef, undef, undef, undef, undef, undef, undef], defers := [] } ∧ IB w' g C V ∧ W5.heap.size ≤ g ∧ Below W5.heap.size W5 w') ?tail2 ?reg2
      case reg2 =>
        refine wp_region_held_drew (S := fun w' => Below W5.heap.size W5 w') (by kernel_rfl) ((Below.refl _ _).drew) (fun hHeld => ?_)
        refine h_take (i := 0) (d := some 39) (v := ?vt1) (by rfl) (by kernel_rfl) (by kernel_rfl) (by kernel_rfl) (fun _ _ _ h => (by cases h.1)) (by rfl) ?hyt1 hHeld ?restt1
        case hyt1 =>
          intro o ho
          simp only [List.getElem?_toArray, List.getElem?_cons_zero, Option.some.injEq] at ho
          subst ho
          intro w' hSw
          first | (go_simp; done) | (go_simp; with_reducible rfl)
        try simp only [Act.put, List.setIfInBounds_toArray, List.set_cons_zero, List.set_cons_succ]
        refine h_take (i := 2) (d := some 41) (v := ?vt2) (by rfl) (by kernel_rfl) (by kernel_rfl) (by kernel_rfl) (fun _ _ _ h => (by cases h.1)) (by rfl) ?hyt2 hHeld ?restt2
        case hyt2 =>
          intro o ho
          simp only [List.getElem?_toArray, List.getElem?_cons_succ, List.getElem?_cons_zero, Option.some.injEq] at ho
          subst ho
          intro w' hSw
          first | (go_simp; done) | (go_simp; with_reducible rfl)
        try simp only [Act.put, List.setIfInBounds_toArray, List.set_cons_zero, List.set_cons_succ]
        refine h_take (i := 3) (d := some 42) (v := ?vt3) (by rfl) (by kernel_rfl) (by kernel_rfl) (by kernel_rfl) (fun _ _ _ h => (by cases h.1)) (by rfl) ?hyt3 hHeld ?restt3
        case hyt3 =>
          intro o ho
          simp only [List.getElem?_toArray, List.getElem?_cons_succ, List.getElem?_cons_zero, Option.some.injEq] at ho
          subst ho
          intro w' hSw
          first | (go_simp; done) | (go_simp; with_reducible rfl)
        try simp only [Act.put, List.setIfInBounds_toArray, List.set_cons_zero, List.set_cons_succ]
        refine h_take (i := 4) (d := some 43) (v := ?vt4) (by rfl) (by kernel_rfl) (by kernel_rfl) (by kernel_rfl) (fun _ _ _ h => (by cases h.1)) (by rfl) ?hyt4 hHeld ?restt4
        case hyt4 =>
          intro o ho
          simp only [List.getElem?_toArray, List.getElem?_cons_succ, List.getElem?_cons_zero, Option.some.injEq] at ho
          subst ho
          intro w' hSw
          first | (go_simp; done) | (go_simp; with_reducible rfl)
        try simp only [Act.put, List.setIfInBounds_toArray, List.set_cons_zero, List.set_cons_succ]
        refine wpAnyH_ready (rs := [1, 6]) (by kernel_rfl) (by simp) ?_
        refine AllReadyH.cons rfl (fun K hK => ?_) (AllReadyH.cons rfl (fun K hK => ?_) AllReadyH.nil)
        · go_simp
          refine (hTh _).mono ?_
          rintro x wq ⟨rfl, hbq⟩
          have hq := below_after_of hHeld hbq
          try (have G := G.below hbq)
          try clear hal
          refine hK.out _ _ ?_ (fun hHeld => ?_)
          · exact hq
          clear hK K
          try simp only [Act.put, List.setIfInBounds_toArray, List.set_cons_zero, List.set_cons_succ]
          refine wpAnyH_ready (rs := [5, 6]) (by kernel_rfl) (by simp) ?_
          refine AllReadyH.cons rfl (fun K hK => ?_) (AllReadyH.cons rfl (fun K hK => ?_) AllReadyH.nil)
          · go_simp
            refine (hI _ _ _ _ _ _ _ _ _ (HJ.out _ hHeld).1 (HJ.out _ hHeld).2.1 (HJ.out _ hHeld).2.2.1 (HJ.out _ hHeld).2.2.2).mono ?_
            rintro x wq ⟨rfl, hbq⟩
            have hq := below_after_of hHeld hbq
            try (have G := G.below hbq)
            try clear hal
            refine hK.out _ _ ?_ (fun hHeld => ?_)
            · exact hq
            clear hK K
            try simp only [Act.put, List.setIfInBounds_toArray, List.set_cons_zero, List.set_cons_succ]
            refine wpAnyH_ready (rs := [6]) (by kernel_rfl) (by simp) ?_
            refine AllReadyH.cons rfl (fun K hK => ?_) AllReadyH.nil
            · go_simp
              first | (have G := IB.new wq 0 0; have hgg := hq.size; have hal := hq) | (have G := (IB.new W5 0 0).drew; have hgg := Nat.le_refl W5.heap.size)
              try (have Q1 := Q1.below (one_new (.cells #[.int .i64 0, .int .i64 0] 58)))
              try (have Q1' := Q1'.below (one_new (.cells #[.int .i64 0, .int .i64 0] 58)))
              try (have Q2 := Q2.below (one_new (.cells #[.int .i64 0, .int .i64 0] 58)))
              try (have Q2' := Q2'.below (one_new (.cells #[.int .i64 0, .int .i64 0] 58)))
              refine hK.out _ _ ?_ (fun hHeld => ?_)
              · exact below_after_of hHeld (one_new _)
              clear hK K
              try simp only [Act.put, List.setIfInBounds_toArray, List.set_cons_zero, List.set_cons_succ]
              have ⟨vv0, vv1, uu0, uu1⟩ := two_cells G.h
              have hgl := G.lt
              refine wpAnyH_ready (rs := [7]) (by kernel_rfl) (by simp) ?_
              refine AllReadyH.cons rfl (fun K hK => ?_) AllReadyH.nil
              go_simp
              refine hK.out _ _ ?_ (fun hHeld => ?_)
              · first | exact below_after_of hal (one_new _) | exact (hHeld.setCell hgg _).setCell hgg _
              clear hK K
              try simp only [Act.put, List.setIfInBounds_toArray, List.set_cons_zero, List.set_cons_succ]
              refine wpAnyH_done (by kernel_rfl) ?_ _
              refine ⟨rfl, _, by with_reducible rfl, ?_, hgg, hHeld⟩
              first | (have hx := hal; exact IB.new _ _ _) | exact G.set _ _
          · go_simp
            first | (have G := IB.new wq 0 0; have hgg := hq.size; have hal := hq) | (have G := (IB.new W5 0 0).drew; have hgg := Nat.le_refl W5.heap.size)
            try (have Q1 := Q1.below (one_new (.cells #[.int .i64 0, .int .i64 0] 58)))
            try (have Q1' := Q1'.below (one_new (.cells #[.int .i64 0, .int .i64 0] 58)))
            try (have Q2 := Q2.below (one_new (.cells #[.int .i64 0, .int .i64 0] 58)))
            try (have Q2' := Q2'.below (one_new (.cells #[.int .i64 0, .int .i64 0] 58)))
            refine hK.out _ _ ?_ (fun hHeld => ?_)
            · exact below_after_of hHeld (one_new _)
            clear hK K
            try simp only [Act.put, List.setIfInBounds_toArray, List.set_cons_zero, List.set_cons_succ]
            refine wpAnyH_ready (rs := [5]) (by kernel_rfl) (by simp) ?_
            refine AllReadyH.cons rfl (fun K hK => ?_) AllReadyH.nil
            · go_simp
              refine (hI _ _ _ _ _ _ _ _ _ (HJ.out _ hHeld).1 (HJ.out _ hHeld).2.1 (HJ.out _ hHeld).2.2.1 (HJ.out _ hHeld).2.2.2).mono ?_
              rintro x wq ⟨rfl, hbq⟩
              have hq := below_after_of hHeld hbq
              try (have G := G.below hbq)
              try clear hal
              refine hK.out _ _ ?_ (fun hHeld => ?_)
              · exact hq
              clear hK K
              try simp only [Act.put, List.setIfInBounds_toArray, List.set_cons_zero, List.set_cons_succ]
              have ⟨vv0, vv1, uu0, uu1⟩ := two_cells G.h
              have hgl := G.lt
              refine wpAnyH_ready (rs := [7]) (by kernel_rfl) (by simp) ?_
              refine AllReadyH.cons rfl (fun K hK => ?_) AllReadyH.nil
              go_simp
              refine hK.out _ _ ?_ (fun hHeld => ?_)
              · first | exact below_after_of hal (one_new _) | exact (hHeld.setCell hgg _).setCell hgg _
              clear hK K
              try simp only [Act.put, List.setIfInBounds_toArray, List.set_cons_zero, List.set_cons_succ]
              refine wpAnyH_done (by kernel_rfl) ?_ _
              refine ⟨rfl, _, by with_reducible rfl, ?_, hgg, hHeld⟩
              first | (have hx := hal; exact IB.new _ _ _) | exact G.set _ _
        · go_simp
          first | (have G := IB.new wq 0 0; have hgg := hq.size; have hal := hq) | (have G := (IB.new W5 0 0).drew; have hgg := Nat.le_refl W5.heap.size)
          try (have Q1 := Q1.below (one_new (.cells #[.int .i64 0, .int .i64 0] 58)))
          try (have Q1' := Q1'.below (one_new (.cells #[.int .i64 0, .int .i64 0] 58)))
          try (have Q2 := Q2.below (one_new (.cells #[.int .i64 0, .int .i64 0] 58)))
          try (have Q2' := Q2'.below (one_new (.cells #[.int .i64 0, .int .i64 0] 58)))
          refine hK.out _ _ ?_ (fun hHeld => ?_)
          · exact below_after_of hHeld (one_new _)
          clear hK K
          try simp only [Act.put, List.setIfInBounds_toArray, List.set_cons_zero, List.set_cons_succ]
          refine wpAnyH_ready (rs := [1]) (by kernel_rfl) (by simp) ?_
          refine AllReadyH.cons rfl (fun K hK => ?_) AllReadyH.nil
          · go_simp
            refine (hTh _).mono ?_
            rintro x wq ⟨rfl, hbq⟩
            have hq := below_after_of hHeld hbq
            try (have G := G.below hbq)
            try clear hal
            refine hK.out _ _ ?_ (fun hHeld => ?_)
            · exact hq
            clear hK K
            try simp only [Act.put, List.setIfInBounds_toArray, List.set_cons_zero, List.set_cons_succ]
            refine wpAnyH_ready (rs := [5]) (by kernel_rfl) (by simp) ?_
            refine AllReadyH.cons rfl (fun K hK => ?_) AllReadyH.nil
            · go_simp
              refine (hI _ _ _ _ _ _ _ _ _ (HJ.out _ hHeld).1 (HJ.out _ hHeld).2.1 (HJ.out _ hHeld).2.2.1 (HJ.out _ hHeld).2.2.2).mono ?_
              rintro x wq ⟨rfl, hbq⟩
              have hq := below_after_of hHeld hbq
              try (have G := G.below hbq)
              try clear hal
              refine hK.out _ _ ?_ (fun hHeld => ?_)
              · exact hq
              clear hK K
              try simp only [Act.put, List.setIfInBounds_toArray, List.set_cons_zero, List.set_cons_succ]
              have ⟨vv0, vv1, uu0, uu1⟩ := two_cells G.h
              have hgl := G.lt
              refine wpAnyH_ready (rs := [7]) (by kernel_rfl) (by simp) ?_
              refine AllReadyH.cons rfl (fun K hK => ?_) AllReadyH.nil
              go_simp
              refine hK.out _ _ ?_ (fun hHeld => ?_)
              · first | exact below_after_of hal (one_new _) | exact (hHeld.setCell hgg _).setCell hgg _
              clear hK K
              try simp only [Act.put, List.setIfInBounds_toArray, List.set_cons_zero, List.set_cons_succ]
              refine wpAnyH_done (by kernel_rfl) ?_ _
              refine ⟨rfl, _, by with_reducible rfl, ?_, hgg, hHeld⟩
              first | (have hx := hal; exact IB.new _ _ _) | exact G.set _ _
      rintro _ _ W6 ⟨rfl, g6, rfl, P6, hg6, hb6⟩
      dsimp only
      have P5 := P5.below hb6
      obtain ⟨vv0, vv1, -⟩ := two_cells P5.h
      obtain ⟨uu0, uu1, -⟩ := two_cells P6.h
      have hB6 := below_after_of hB5 hb6
      have HC6 : Hid (∀ w', Below W6.heap.size W6 w' → w'.cell? ⟨w.heap.size, 0, none⟩ = some (.int .i64 he) ∧ w'.cell? ⟨w.heap.size, 1, none⟩ = some (.int .i64 hp) ∧ w'.cell? ⟨w.heap.size, 2, none⟩ = some (.int .i64 ho) ∧ w'.cell? ⟨w.heap.size, 3, none⟩ = some (.int .i64 hn) ∧ w'.cell? ⟨w.heap.size, 4, none⟩ = some (.int .i64 hv) ∧ w'.cell? ⟨w.heap.size + 1, 0, none⟩ = some (.int .i64 e1) ∧ w'.cell? ⟨w.heap.size + 1, 1, none⟩ = some (.bool hl1) ∧ w'.cell? ⟨w.heap.size + 1, 2, none⟩ = some (.string l1) ∧ w'.cell? ⟨w.heap.size + 1, 3, none⟩ = some (.int .i64 v1) ∧ w'.cell? ⟨w.heap.size + 1, 4, none⟩ = some (.int .i64 o1) ∧ w'.cell? ⟨w.heap.size + 1, 5, none⟩ = some (.int .i64 p1) ∧ w'.cell? ⟨w.heap.size + 1, 6, none⟩ = some (.bool so1) ∧ w'.cell? ⟨w.heap.size + 1, 7, none⟩ = some (.bool st1) ∧ w'.cell? ⟨w.heap.size + 1, 8, none⟩ = some (.int .i64 sv1) ∧ w'.cell? ⟨w.heap.size + 1, 9, none⟩ = some (.slice a1 pn1 c1) ∧ w'.cell? ⟨w.heap.size + 1, 10, none⟩ = some (.bool sx1) ∧ w'.cell? ⟨w.heap.size + 1, 11, none⟩ = some (.int .i64 sk1) ∧ w'.cell? ⟨w.heap.size + 1, 12, none⟩ = some (.int .i64 sy1) ∧ w'.cell? ⟨w.heap.size + 1, 13, none⟩ = some (.slice b1 fn1 d1) ∧ w'.cell? ⟨w.heap.size + 2, 0, none⟩ = some (.int .i64 e2) ∧ w'.cell? ⟨w.heap.size + 2, 1, none⟩ = some (.bool hl2) ∧ w'.cell? ⟨w.heap.size + 2, 2, none⟩ = some (.string l2) ∧ w'.cell? ⟨w.heap.size + 2, 3, none⟩ = some (.int .i64 v2) ∧ w'.cell? ⟨w.heap.size + 2, 4, none⟩ = some (.int .i64 o2) ∧ w'.cell? ⟨w.heap.size + 2, 5, none⟩ = some (.int .i64 p2) ∧ w'.cell? ⟨w.heap.size + 2, 6, none⟩ = some (.bool so2) ∧ w'.cell? ⟨w.heap.size + 2, 7, none⟩ = some (.bool st2) ∧ w'.cell? ⟨w.heap.size + 2, 8, none⟩ = some (.int .i64 sv2) ∧ w'.cell? ⟨w.heap.size + 2, 9, none⟩ = some (.slice a2 pn2 c2) ∧ w'.cell? ⟨w.heap.size + 2, 10, none⟩ = some (.bool sx2) ∧ w'.cell? ⟨w.heap.size + 2, 11, none⟩ = some (.int .i64 sk2) ∧ w'.cell? ⟨w.heap.size + 2, 12, none⟩ = some (.int .i64 sy2) ∧ w'.cell? ⟨w.heap.size + 2, 13, none⟩ = some (.slice b2 fn2 d2) ∧ w'.cell? ⟨w4.heap.size, 0, none⟩ = some (.int .i64 e1) ∧ w'.cell? ⟨w4.heap.size, 1, none⟩ = some (.bool hl1) ∧ w'.cell? ⟨w4.heap.size, 2, none⟩ = some (.string l1) ∧ w'.cell? ⟨w4.heap.size, 3, none⟩ = some (.int .i64 v1) ∧ w'.cell? ⟨w4.heap.size, 4, none⟩ = some (.int .i64 o1) ∧ w'.cell? ⟨w4.heap.size, 5, none⟩ = some (.int .i64 p1) ∧ w'.cell? ⟨w4.heap.size, 6, none⟩ = some (.bool so1) ∧ w'.cell? ⟨w4.heap.size, 7, none⟩ = some (.bool st1) ∧ w'.cell? ⟨w4.heap.size, 8, none⟩ = some (.int .i64 sv1) ∧ w'.cell? ⟨w4.heap.size, 9, none⟩ = some (.slice x1a pn1 x1c) ∧ w'.cell? ⟨w4.heap.size, 10, none⟩ = some (.bool sx1) ∧ w'.cell? ⟨w4.heap.size, 11, none⟩ = some (.int .i64 sk1) ∧ w'.cell? ⟨w4.heap.size, 12, none⟩ = some (.int .i64 sy1) ∧ w'.cell? ⟨w4.heap.size, 13, none⟩ = some (.slice x1b fn1 x1d) ∧ w'.cell? ⟨w5.heap.size, 0, none⟩ = some (.int .i64 e2) ∧ w'.cell? ⟨w5.heap.size, 1, none⟩ = some (.bool hl2) ∧ w'.cell? ⟨w5.heap.size, 2, none⟩ = some (.string l2) ∧ w'.cell? ⟨w5.heap.size, 3, none⟩ = some (.int .i64 v2) ∧ w'.cell? ⟨w5.heap.size, 4, none⟩ = some (.int .i64 o2) ∧ w'.cell? ⟨w5.heap.size, 5, none⟩ = some (.int .i64 p2) ∧ w'.cell? ⟨w5.heap.size, 6, none⟩ = some (.bool so2) ∧ w'.cell? ⟨w5.heap.size, 7, none⟩ = some (.bool st2) ∧ w'.cell? ⟨w5.heap.size, 8, none⟩ = some (.int .i64 sv2) ∧ w'.cell? ⟨w5.heap.size, 9, none⟩ = some (.slice x2a pn2 x2c) ∧ w'.cell? ⟨w5.heap.size, 10, none⟩ = some (.bool sx2) ∧ w'.cell? ⟨w5.heap.size, 11, none⟩ = some (.int .i64 sk2) ∧ w'.cell? ⟨w5.heap.size, 12, none⟩ = some (.int .i64 sy2) ∧ w'.cell? ⟨w5.heap.size, 13, none⟩ = some (.slice x2b fn2 x2d)) := fun w' hb => law_all (HA5.out _ (below_after_of hb6 hb)) (HX5.out _ (below_after_of hb6 hb)).1 (HX5.out _ (below_after_of hb6 hb)).2
      have HJ6 : Hid (∀ w', Below W6.heap.size W6 w' → Ints .i64 w' (.slice x1a pn1 x1c) ps1 ∧ Prs w' (.slice x1b fn1 x1d) m1 ∧ Ints .i64 w' (.slice x2a pn2 x2c) ps2 ∧ Prs w' (.slice x2b fn2 x2d) m2) := fun w' hb => HJ.out _ (below_after_of hb6 hb)
      clear q0 q1 q2 q3 q4 q5 q6 q7 q8 q9 q10 q11 q12 q13 q14 q15 q16 q17 q18 q19 q20 q21 q22 q23 q24 q25 q26 q27 q28 q29 q30 q31 q32 r0 r1 r2 r3 r4 r5 r6 r7 r8 r9 r10 r11 r12 r13 s0 s1 s2 s3 s4 s5 s6 s7 s8 s9 s10 s11 s12 s13 HA5 HX5 HJ hI hB5 hb6 P5 P6
      go_wp2_with fail
      refine (eqIntResult_same C V _).mono ?_
      rintro x w7 ⟨rfl, hbr⟩
      clear vv0 vv1 uu0 uu1
      have HC0 := HC6.out _ hbr
      go_wp2_with fail
      go_region_held3 (fun w' => w'.cell? ⟨w.heap.size, 0, none⟩ = some (.int .i64 he) ∧ w'.cell? ⟨w.heap.size, 1, none⟩ = some (.int .i64 hp) ∧ w'.cell? ⟨w.heap.size, 2, none⟩ = some (.int .i64 ho) ∧ w'.cell? ⟨w.heap.size, 3, none⟩ = some (.int .i64 hn) ∧ w'.cell? ⟨w.heap.size, 4, none⟩ = some (.int .i64 hv) ∧ w'.cell? ⟨w.heap.size + 1, 0, none⟩ = some (.int .i64 e1) ∧ w'.cell? ⟨w.heap.size + 1, 1, none⟩ = some (.bool hl1) ∧ w'.cell? ⟨w.heap.size + 1, 2, none⟩ = some (.string l1) ∧ w'.cell? ⟨w.heap.size + 1, 3, none⟩ = some (.int .i64 v1) ∧ w'.cell? ⟨w.heap.size + 1, 4, none⟩ = some (.int .i64 o1) ∧ w'.cell? ⟨w.heap.size + 1, 5, none⟩ = some (.int .i64 p1) ∧ w'.cell? ⟨w.heap.size + 1, 6, none⟩ = some (.bool so1) ∧ w'.cell? ⟨w.heap.size + 1, 7, none⟩ = some (.bool st1) ∧ w'.cell? ⟨w.heap.size + 1, 8, none⟩ = some (.int .i64 sv1) ∧ w'.cell? ⟨w.heap.size + 1, 9, none⟩ = some (.slice a1 pn1 c1) ∧ w'.cell? ⟨w.heap.size + 1, 10, none⟩ = some (.bool sx1) ∧ w'.cell? ⟨w.heap.size + 1, 11, none⟩ = some (.int .i64 sk1) ∧ w'.cell? ⟨w.heap.size + 1, 12, none⟩ = some (.int .i64 sy1) ∧ w'.cell? ⟨w.heap.size + 1, 13, none⟩ = some (.slice b1 fn1 d1) ∧ w'.cell? ⟨w.heap.size + 2, 0, none⟩ = some (.int .i64 e2) ∧ w'.cell? ⟨w.heap.size + 2, 1, none⟩ = some (.bool hl2) ∧ w'.cell? ⟨w.heap.size + 2, 2, none⟩ = some (.string l2) ∧ w'.cell? ⟨w.heap.size + 2, 3, none⟩ = some (.int .i64 v2) ∧ w'.cell? ⟨w.heap.size + 2, 4, none⟩ = some (.int .i64 o2) ∧ w'.cell? ⟨w.heap.size + 2, 5, none⟩ = some (.int .i64 p2) ∧ w'.cell? ⟨w.heap.size + 2, 6, none⟩ = some (.bool so2) ∧ w'.cell? ⟨w.heap.size + 2, 7, none⟩ = some (.bool st2) ∧ w'.cell? ⟨w.heap.size + 2, 8, none⟩ = some (.int .i64 sv2) ∧ w'.cell? ⟨w.heap.size + 2, 9, none⟩ = some (.slice a2 pn2 c2) ∧ w'.cell? ⟨w.heap.size + 2, 10, none⟩ = some (.bool sx2) ∧ w'.cell? ⟨w.heap.size + 2, 11, none⟩ = some (.int .i64 sk2) ∧ w'.cell? ⟨w.heap.size + 2, 12, none⟩ = some (.int .i64 sy2) ∧ w'.cell? ⟨w.heap.size + 2, 13, none⟩ = some (.slice b2 fn2 d2) ∧ w'.cell? ⟨w4.heap.size, 0, none⟩ = some (.int .i64 e1) ∧ w'.cell? ⟨w4.heap.size, 1, none⟩ = some (.bool hl1) ∧ w'.cell? ⟨w4.heap.size, 2, none⟩ = some (.string l1) ∧ w'.cell? ⟨w4.heap.size, 3, none⟩ = some (.int .i64 v1) ∧ w'.cell? ⟨w4.heap.size, 4, none⟩ = some (.int .i64 o1) ∧ w'.cell? ⟨w4.heap.size, 5, none⟩ = some (.int .i64 p1) ∧ w'.cell? ⟨w4.heap.size, 6, none⟩ = some (.bool so1) ∧ w'.cell? ⟨w4.heap.size, 7, none⟩ = some (.bool st1) ∧ w'.cell? ⟨w4.heap.size, 8, none⟩ = some (.int .i64 sv1) ∧ w'.cell? ⟨w4.heap.size, 9, none⟩ = some (.slice x1a pn1 x1c) ∧ w'.cell? ⟨w4.heap.size, 10, none⟩ = some (.bool sx1) ∧ w'.cell? ⟨w4.heap.size, 11, none⟩ = some (.int .i64 sk1) ∧ w'.cell? ⟨w4.heap.size, 12, none⟩ = some (.int .i64 sy1) ∧ w'.cell? ⟨w4.heap.size, 13, none⟩ = some (.slice x1b fn1 x1d) ∧ w'.cell? ⟨w5.heap.size, 0, none⟩ = some (.int .i64 e2) ∧ w'.cell? ⟨w5.heap.size, 1, none⟩ = some (.bool hl2) ∧ w'.cell? ⟨w5.heap.size, 2, none⟩ = some (.string l2) ∧ w'.cell? ⟨w5.heap.size, 3, none⟩ = some (.int .i64 v2) ∧ w'.cell? ⟨w5.heap.size, 4, none⟩ = some (.int .i64 o2) ∧ w'.cell? ⟨w5.heap.size, 5, none⟩ = some (.int .i64 p2) ∧ w'.cell? ⟨w5.heap.size, 6, none⟩ = some (.bool so2) ∧ w'.cell? ⟨w5.heap.size, 7, none⟩ = some (.bool st2) ∧ w'.cell? ⟨w5.heap.size, 8, none⟩ = some (.int .i64 sv2) ∧ w'.cell? ⟨w5.heap.size, 9, none⟩ = some (.slice x2a pn2 x2c) ∧ w'.cell? ⟨w5.heap.size, 10, none⟩ = some (.bool sx2) ∧ w'.cell? ⟨w5.heap.size, 11, none⟩ = some (.int .i64 sk2) ∧ w'.cell? ⟨w5.heap.size, 12, none⟩ = some (.int .i64 sy2) ∧ w'.cell? ⟨w5.heap.size, 13, none⟩ = some (.slice x2b fn2 x2d))
        (first | exact HC0 | exact HC6.out _ hbr | exact HC6.out _ hbr.drew)
        (first
          | (go_at_call 10; refine (hT1 _ (below_after_of hB6 (by first | exact hbr | exact hbr.drew))).mono ?_; rintro x w8 ⟨y1a, y1c, y1b, y1d, rfl, hb8, o8, o8'⟩; have hbr : Below W6.heap.size W6 w8 := (by first | exact below_after_of hbr hb8 | exact below_after_of hbr.drew hb8))
          | (go_at_call 13; refine (hE1 _ _ _ _ _ (HJ6.out _ hbr).1 (own_ints_se HPN1.out o8) (HJ6.out _ hbr).2.1 (own_prs_se HFN1.out o8')).mono ?_; rintro x w9 ⟨rfl, hb9⟩; have hbr : Below W6.heap.size W6 w9 := (by first | exact below_after_of hbr hb9 | exact below_after_of hbr.drew hb9)))
      have HC0 := HC6.out _ hbr
      go_wp2_with fail
      go_region_held3 (fun w' => w'.cell? ⟨w.heap.size, 0, none⟩ = some (.int .i64 he) ∧ w'.cell? ⟨w.heap.size, 1, none⟩ = some (.int .i64 hp) ∧ w'.cell? ⟨w.heap.size, 2, none⟩ = some (.int .i64 ho) ∧ w'.cell? ⟨w.heap.size, 3, none⟩ = some (.int .i64 hn) ∧ w'.cell? ⟨w.heap.size, 4, none⟩ = some (.int .i64 hv) ∧ w'.cell? ⟨w.heap.size + 1, 0, none⟩ = some (.int .i64 e1) ∧ w'.cell? ⟨w.heap.size + 1, 1, none⟩ = some (.bool hl1) ∧ w'.cell? ⟨w.heap.size + 1, 2, none⟩ = some (.string l1) ∧ w'.cell? ⟨w.heap.size + 1, 3, none⟩ = some (.int .i64 v1) ∧ w'.cell? ⟨w.heap.size + 1, 4, none⟩ = some (.int .i64 o1) ∧ w'.cell? ⟨w.heap.size + 1, 5, none⟩ = some (.int .i64 p1) ∧ w'.cell? ⟨w.heap.size + 1, 6, none⟩ = some (.bool so1) ∧ w'.cell? ⟨w.heap.size + 1, 7, none⟩ = some (.bool st1) ∧ w'.cell? ⟨w.heap.size + 1, 8, none⟩ = some (.int .i64 sv1) ∧ w'.cell? ⟨w.heap.size + 1, 9, none⟩ = some (.slice a1 pn1 c1) ∧ w'.cell? ⟨w.heap.size + 1, 10, none⟩ = some (.bool sx1) ∧ w'.cell? ⟨w.heap.size + 1, 11, none⟩ = some (.int .i64 sk1) ∧ w'.cell? ⟨w.heap.size + 1, 12, none⟩ = some (.int .i64 sy1) ∧ w'.cell? ⟨w.heap.size + 1, 13, none⟩ = some (.slice b1 fn1 d1) ∧ w'.cell? ⟨w.heap.size + 2, 0, none⟩ = some (.int .i64 e2) ∧ w'.cell? ⟨w.heap.size + 2, 1, none⟩ = some (.bool hl2) ∧ w'.cell? ⟨w.heap.size + 2, 2, none⟩ = some (.string l2) ∧ w'.cell? ⟨w.heap.size + 2, 3, none⟩ = some (.int .i64 v2) ∧ w'.cell? ⟨w.heap.size + 2, 4, none⟩ = some (.int .i64 o2) ∧ w'.cell? ⟨w.heap.size + 2, 5, none⟩ = some (.int .i64 p2) ∧ w'.cell? ⟨w.heap.size + 2, 6, none⟩ = some (.bool so2) ∧ w'.cell? ⟨w.heap.size + 2, 7, none⟩ = some (.bool st2) ∧ w'.cell? ⟨w.heap.size + 2, 8, none⟩ = some (.int .i64 sv2) ∧ w'.cell? ⟨w.heap.size + 2, 9, none⟩ = some (.slice a2 pn2 c2) ∧ w'.cell? ⟨w.heap.size + 2, 10, none⟩ = some (.bool sx2) ∧ w'.cell? ⟨w.heap.size + 2, 11, none⟩ = some (.int .i64 sk2) ∧ w'.cell? ⟨w.heap.size + 2, 12, none⟩ = some (.int .i64 sy2) ∧ w'.cell? ⟨w.heap.size + 2, 13, none⟩ = some (.slice b2 fn2 d2) ∧ w'.cell? ⟨w4.heap.size, 0, none⟩ = some (.int .i64 e1) ∧ w'.cell? ⟨w4.heap.size, 1, none⟩ = some (.bool hl1) ∧ w'.cell? ⟨w4.heap.size, 2, none⟩ = some (.string l1) ∧ w'.cell? ⟨w4.heap.size, 3, none⟩ = some (.int .i64 v1) ∧ w'.cell? ⟨w4.heap.size, 4, none⟩ = some (.int .i64 o1) ∧ w'.cell? ⟨w4.heap.size, 5, none⟩ = some (.int .i64 p1) ∧ w'.cell? ⟨w4.heap.size, 6, none⟩ = some (.bool so1) ∧ w'.cell? ⟨w4.heap.size, 7, none⟩ = some (.bool st1) ∧ w'.cell? ⟨w4.heap.size, 8, none⟩ = some (.int .i64 sv1) ∧ w'.cell? ⟨w4.heap.size, 9, none⟩ = some (.slice x1a pn1 x1c) ∧ w'.cell? ⟨w4.heap.size, 10, none⟩ = some (.bool sx1) ∧ w'.cell? ⟨w4.heap.size, 11, none⟩ = some (.int .i64 sk1) ∧ w'.cell? ⟨w4.heap.size, 12, none⟩ = some (.int .i64 sy1) ∧ w'.cell? ⟨w4.heap.size, 13, none⟩ = some (.slice x1b fn1 x1d) ∧ w'.cell? ⟨w5.heap.size, 0, none⟩ = some (.int .i64 e2) ∧ w'.cell? ⟨w5.heap.size, 1, none⟩ = some (.bool hl2) ∧ w'.cell? ⟨w5.heap.size, 2, none⟩ = some (.string l2) ∧ w'.cell? ⟨w5.heap.size, 3, none⟩ = some (.int .i64 v2) ∧ w'.cell? ⟨w5.heap.size, 4, none⟩ = some (.int .i64 o2) ∧ w'.cell? ⟨w5.heap.size, 5, none⟩ = some (.int .i64 p2) ∧ w'.cell? ⟨w5.heap.size, 6, none⟩ = some (.bool so2) ∧ w'.cell? ⟨w5.heap.size, 7, none⟩ = some (.bool st2) ∧ w'.cell? ⟨w5.heap.size, 8, none⟩ = some (.int .i64 sv2) ∧ w'.cell? ⟨w5.heap.size, 9, none⟩ = some (.slice x2a pn2 x2c) ∧ w'.cell? ⟨w5.heap.size, 10, none⟩ = some (.bool sx2) ∧ w'.cell? ⟨w5.heap.size, 11, none⟩ = some (.int .i64 sk2) ∧ w'.cell? ⟨w5.heap.size, 12, none⟩ = some (.int .i64 sy2) ∧ w'.cell? ⟨w5.heap.size, 13, none⟩ = some (.slice x2b fn2 x2d))
        (first | exact HC0 | exact HC6.out _ hbr | exact HC6.out _ hbr.drew)
        (first
          | (go_at_call 10; refine (hT2 _ (below_after_of hB6 (by first | exact hbr | exact hbr.drew))).mono ?_; rintro x w10 ⟨y2a, y2c, y2b, y2d, rfl, hb10, o10, o10'⟩; have hbr : Below W6.heap.size W6 w10 := (by first | exact below_after_of hbr hb10 | exact below_after_of hbr.drew hb10))
          | (go_at_call 13; refine (hE2 _ _ _ _ _ (HJ6.out _ hbr).2.2.1 (own_ints_se HPN2.out o10) (HJ6.out _ hbr).2.2.2 (own_prs_se HFN2.out o10')).mono ?_; rintro x w11 ⟨rfl, hb11⟩; have hbr : Below W6.heap.size W6 w11 := (by first | exact below_after_of hbr hb11 | exact below_after_of hbr.drew hb11)))
      have hB8 := below_after_of hB6 hbr
      clear HC6 HC0 HJ6 hT1 hT2 hE1 hE2 hTh
      go_wp2
      go_ret
      exact ⟨rfl, hB8⟩
    · rw [if_neg h3] at hZ2
      generalize ps1.length = pn1 at *
      generalize m1.length = fn1 at *
      generalize ps2.length = pn2 at *
      generalize m2.length = fn2 at *
      clear I1 P1 I2 P2
      clear h h3
      generalize (1048576 - l1.size - pn1 - fn1 : Int) = z1 at *
      obtain ⟨W, hW⟩ : ∃ W, W = ((w.alloc (.cells #[.int .i64 he, .int .i64 hp, .int .i64 ho, .int .i64 hn, .int .i64 hv] 23)).alloc (.cells #[.int .i64 e1, .bool hl1, .string l1, .int .i64 v1, .int .i64 o1, .int .i64 p1, .bool so1, .bool st1, .int .i64 sv1, .slice a1 pn1 c1, .bool sx1, .int .i64 sk1, .int .i64 sy1, .slice b1 fn1 d1] 35)).alloc (.cells #[.int .i64 e2, .bool hl2, .string l2, .int .i64 v2, .int .i64 o2, .int .i64 p2, .bool so2, .bool st2, .int .i64 sv2, .slice a2 pn2 c2, .bool sx2, .int .i64 sk2, .int .i64 sy2, .slice b2 fn2 d2] 35) := ⟨_, rfl⟩
      have HW : Hid (((w.alloc (.cells #[.int .i64 he, .int .i64 hp, .int .i64 ho, .int .i64 hn, .int .i64 hv] 23)).alloc (.cells #[.int .i64 e1, .bool hl1, .string l1, .int .i64 v1, .int .i64 o1, .int .i64 p1, .bool so1, .bool st1, .int .i64 sv1, .slice a1 pn1 c1, .bool sx1, .int .i64 sk1, .int .i64 sy1, .slice b1 fn1 d1] 35)).alloc (.cells #[.int .i64 e2, .bool hl2, .string l2, .int .i64 v2, .int .i64 o2, .int .i64 p2, .bool so2, .bool st2, .int .i64 sv2, .slice a2 pn2 c2, .bool sx2, .int .i64 sk2, .int .i64 sy2, .slice b2 fn2 d2] 35) = W) := hW.symm
      have hb0 : Below w.heap.size w W := by rw [hW]; exact three_new _ _ _
      have hx := heap_at2 (one_new (w := (w.alloc (.cells #[.int .i64 he, .int .i64 hp, .int .i64 ho, .int .i64 hn, .int .i64 hv] 23)).alloc (.cells #[.int .i64 e1, .bool hl1, .string l1, .int .i64 v1, .int .i64 o1, .int .i64 p1, .bool so1, .bool st1, .int .i64 sv1, .slice a1 pn1 c1, .bool sx1, .int .i64 sk1, .int .i64 sy1, .slice b1 fn1 d1] 35)) (.cells #[.int .i64 e2, .bool hl2, .string l2, .int .i64 v2, .int .i64 o2, .int .i64 p2, .bool so2, .bool st2, .int .i64 sv2, .slice a2 pn2 c2, .bool sx2, .int .i64 sk2, .int .i64 sy2, .slice b2 fn2 d2] 35))
      have ee2 : ((w.alloc (.cells #[.int .i64 he, .int .i64 hp, .int .i64 ho, .int .i64 hn, .int .i64 hv] 23)).alloc (.cells #[.int .i64 e1, .bool hl1, .string l1, .int .i64 v1, .int .i64 o1, .int .i64 p1, .bool so1, .bool st1, .int .i64 sv1, .slice a1 pn1 c1, .bool sx1, .int .i64 sk1, .int .i64 sy1, .slice b1 fn1 d1] 35)).heap.size = w.heap.size + 2 := by simp
      have X2 := heap_alloc_new ((w.alloc (.cells #[.int .i64 he, .int .i64 hp, .int .i64 ho, .int .i64 hn, .int .i64 hv] 23)).alloc (.cells #[.int .i64 e1, .bool hl1, .string l1, .int .i64 v1, .int .i64 o1, .int .i64 p1, .bool so1, .bool st1, .int .i64 sv1, .slice a1 pn1 c1, .bool sx1, .int .i64 sk1, .int .i64 sy1, .slice b1 fn1 d1] 35)) (.cells #[.int .i64 e2, .bool hl2, .string l2, .int .i64 v2, .int .i64 o2, .int .i64 p2, .bool so2, .bool st2, .int .i64 sv2, .slice a2 pn2 c2, .bool sx2, .int .i64 sk2, .int .i64 sy2, .slice b2 fn2 d2] 35)
      rw [ee2] at X2
      rw [← hW] at X2 hx
      obtain ⟨⟨cc0, cc1, cc2, cc3, cc4, cc5, cc6, cc7, cc8, cc9, cc10, cc11, cc12, cc13⟩, -⟩ := fourteen hx.2
      clear hW ee2
      go_enter Tryz.func4, Tryz.ntmps4
      go_wp2_with fail
      rw [HW.out]
      go_wp2_with fail
      refine (hZ1 _).mono ?_
      rintro x w0 ⟨rfl, hbz⟩
      clear hZ1 cc0 cc1 cc2 cc3 cc4 cc5 cc6 cc7 cc8 cc9 cc10 cc11 cc12 cc13 hx
      obtain ⟨⟨cc0, cc1, cc2, cc3, cc4, cc5, cc6, cc7, cc8, cc9, cc10, cc11, cc12, cc13⟩, -⟩ := fourteen ((hbz.block _ (Array.getElem?_eq_some_iff.1 X2).1).trans X2)
      go_wp2_with fail
      refine (hZ2 _).mono ?_
      rintro x w1 ⟨rfl, hby⟩
      have hB := below_after_of hb0 (below_after_of hbz hby)
      clear hZ2 X2 hbz hby cc0 cc1 cc2 cc3 cc4 cc5 cc6 cc7 cc8 cc9 cc10 cc11 cc12 cc13
      go_wp2
      go_ret
      exact ⟨rfl, hB⟩
  · rw [if_neg h] at hZ1
    generalize ps1.length = pn1 at *
    generalize m1.length = fn1 at *
    generalize ps2.length = pn2 at *
    generalize m2.length = fn2 at *
    clear I1 P1 I2 P2
    obtain ⟨W, hW⟩ : ∃ W, W = ((w.alloc (.cells #[.int .i64 he, .int .i64 hp, .int .i64 ho, .int .i64 hn, .int .i64 hv] 23)).alloc (.cells #[.int .i64 e1, .bool hl1, .string l1, .int .i64 v1, .int .i64 o1, .int .i64 p1, .bool so1, .bool st1, .int .i64 sv1, .slice a1 pn1 c1, .bool sx1, .int .i64 sk1, .int .i64 sy1, .slice b1 fn1 d1] 35)).alloc (.cells #[.int .i64 e2, .bool hl2, .string l2, .int .i64 v2, .int .i64 o2, .int .i64 p2, .bool so2, .bool st2, .int .i64 sv2, .slice a2 pn2 c2, .bool sx2, .int .i64 sk2, .int .i64 sy2, .slice b2 fn2 d2] 35) := ⟨_, rfl⟩
    have HW : Hid (((w.alloc (.cells #[.int .i64 he, .int .i64 hp, .int .i64 ho, .int .i64 hn, .int .i64 hv] 23)).alloc (.cells #[.int .i64 e1, .bool hl1, .string l1, .int .i64 v1, .int .i64 o1, .int .i64 p1, .bool so1, .bool st1, .int .i64 sv1, .slice a1 pn1 c1, .bool sx1, .int .i64 sk1, .int .i64 sy1, .slice b1 fn1 d1] 35)).alloc (.cells #[.int .i64 e2, .bool hl2, .string l2, .int .i64 v2, .int .i64 o2, .int .i64 p2, .bool so2, .bool st2, .int .i64 sv2, .slice a2 pn2 c2, .bool sx2, .int .i64 sk2, .int .i64 sy2, .slice b2 fn2 d2] 35) = W) := hW.symm
    have hb0 : Below w.heap.size w W := by rw [hW]; exact three_new _ _ _
    have hx := heap_at2 (one_new (w := (w.alloc (.cells #[.int .i64 he, .int .i64 hp, .int .i64 ho, .int .i64 hn, .int .i64 hv] 23)).alloc (.cells #[.int .i64 e1, .bool hl1, .string l1, .int .i64 v1, .int .i64 o1, .int .i64 p1, .bool so1, .bool st1, .int .i64 sv1, .slice a1 pn1 c1, .bool sx1, .int .i64 sk1, .int .i64 sy1, .slice b1 fn1 d1] 35)) (.cells #[.int .i64 e2, .bool hl2, .string l2, .int .i64 v2, .int .i64 o2, .int .i64 p2, .bool so2, .bool st2, .int .i64 sv2, .slice a2 pn2 c2, .bool sx2, .int .i64 sk2, .int .i64 sy2, .slice b2 fn2 d2] 35))
    have ee2 : ((w.alloc (.cells #[.int .i64 he, .int .i64 hp, .int .i64 ho, .int .i64 hn, .int .i64 hv] 23)).alloc (.cells #[.int .i64 e1, .bool hl1, .string l1, .int .i64 v1, .int .i64 o1, .int .i64 p1, .bool so1, .bool st1, .int .i64 sv1, .slice a1 pn1 c1, .bool sx1, .int .i64 sk1, .int .i64 sy1, .slice b1 fn1 d1] 35)).heap.size = w.heap.size + 2 := by simp
    have X2 := heap_alloc_new ((w.alloc (.cells #[.int .i64 he, .int .i64 hp, .int .i64 ho, .int .i64 hn, .int .i64 hv] 23)).alloc (.cells #[.int .i64 e1, .bool hl1, .string l1, .int .i64 v1, .int .i64 o1, .int .i64 p1, .bool so1, .bool st1, .int .i64 sv1, .slice a1 pn1 c1, .bool sx1, .int .i64 sk1, .int .i64 sy1, .slice b1 fn1 d1] 35)) (.cells #[.int .i64 e2, .bool hl2, .string l2, .int .i64 v2, .int .i64 o2, .int .i64 p2, .bool so2, .bool st2, .int .i64 sv2, .slice a2 pn2 c2, .bool sx2, .int .i64 sk2, .int .i64 sy2, .slice b2 fn2 d2] 35)
    rw [ee2] at X2
    rw [← hW] at X2 hx
    obtain ⟨⟨cc0, cc1, cc2, cc3, cc4, cc5, cc6, cc7, cc8, cc9, cc10, cc11, cc12, cc13⟩, -⟩ := fourteen hx.2
    clear hW ee2
    go_enter Tryz.func4, Tryz.ntmps4
    go_wp2_with fail
    rw [HW.out]
    go_wp2_with fail
    refine (hZ1 _).mono ?_
    rintro x w0 ⟨rfl, hbz⟩
    have hB := below_after_of hb0 hbz
    clear hZ1 X2 hx hbz cc0 cc1 cc2 cc3 cc4 cc5 cc6 cc7 cc8 cc9 cc10 cc11 cc12 cc13
    go_wp2
    go_ret
    exact ⟨rfl, hB⟩
end U
end Go.Proofs.YtdbbmclobmigdaaGreat
