/- The law on SeeReply, walked: true, and nothing that was there has turned. -/
import Derived.Test.YtdbbmclobmigdaaGreatGSG
import Derived.Test.YtdbbmclobmigdaaGreatGSD
import Derived.Test.YtdbbmclobmigdaaGreatGAnE
import Derived.Test.YtdbbmclobmigdaaGreatGSC
import Derived.Deep.RegionHeld3
namespace Go.Proofs.YtdbbmclobmigdaaGreat
open Go.RowKit
namespace U
/-- An answer in a block. -/
structure AnB (w : World) (g : Nat) (c k : Int) (f : Bool) (x0 : ByteArray) (x1 x2 x3 : Int) : Prop where
  h : w.heap[g]? = some (.cells #[.int .i64 c, .int .i64 k, .bool f, .string x0, .int .i64 x1, .int .i64 x2, .int .i64 x3] 41)
theorem AnB.below {w w' : World} {g : Nat} {c k : Int} {f : Bool} {x0 : ByteArray} {x1 x2 x3 : Int} (h : AnB w g c k f x0 x1 x2 x3) (hb : Below w.heap.size w w') : AnB w' g c k f x0 x1 x2 x3 := ⟨(hb.block _ (Array.getElem?_eq_some_iff.1 h.h).1).trans h.h⟩
theorem AnB.drew {w : World} {g : Nat} {c k : Int} {f : Bool} {x0 : ByteArray} {x1 x2 x3 : Int} (h : AnB w g c k f x0 x1 x2 x3) : AnB w.drew g c k f x0 x1 x2 x3 := h.below (Below.refl _ _).drew
theorem AnB.lt {w : World} {g : Nat} {c k : Int} {f : Bool} {x0 : ByteArray} {x1 x2 x3 : Int} (h : AnB w g c k f x0 x1 x2 x3) : g < w.heap.size := (Array.getElem?_eq_some_iff.1 h.h).1
theorem AnB.new (w : World) (c k : Int) (f : Bool) (x0 : ByteArray) (x1 x2 x3 : Int) : AnB (w.alloc (.cells #[.int .i64 c, .int .i64 k, .bool f, .string x0, .int .i64 x1, .int .i64 x2, .int .i64 x3] 41)) w.heap.size c k f x0 x1 x2 x3 := ⟨heap_alloc_new w _⟩
theorem AnB.set {w : World} {g : Nat} {c k : Int} {f : Bool} {x0 : ByteArray} {x1 x2 x3 : Int} (h : AnB w g c k f x0 x1 x2 x3) (c' k' : Int) (f' : Bool) (y0 : ByteArray) (y1 y2 y3 : Int) : AnB (((((((w.setCell ⟨g, 0, none⟩ (.int .i64 c')).setCell ⟨g, 1, none⟩ (.int .i64 k')).setCell ⟨g, 2, none⟩ (.bool f')).setCell ⟨g, 3, none⟩ (.string y0)).setCell ⟨g, 4, none⟩ (.int .i64 y1)).setCell ⟨g, 5, none⟩ (.int .i64 y2)).setCell ⟨g, 6, none⟩ (.int .i64 y3)) g c' k' f' y0 y1 y2 y3 := by
  have h0 := heap_setCell_same w g 0 _ _ (.int .i64 c') h.h
  have h1 := heap_setCell_same _ g 1 _ _ (.int .i64 k') h0
  have h2 := heap_setCell_same _ g 2 _ _ (.bool f') h1
  have h3 := heap_setCell_same _ g 3 _ _ (.string y0) h2
  have h4 := heap_setCell_same _ g 4 _ _ (.int .i64 y1) h3
  have h5 := heap_setCell_same _ g 5 _ _ (.int .i64 y2) h4
  have h6 := heap_setCell_same _ g 6 _ _ (.int .i64 y3) h5
  exact ⟨by simpa using h6⟩
theorem own_ints_se {w : World} {B n : Nat} {e : TypeId} {v : Value} {xs : List Int} (HN : n = xs.length) (h : w.ownsRow B e 1 v n (xs.map (Value.int .i64))) : Ints .i64 w v xs := by
  subst HN
  exact own_ints h
theorem own_prs_se {w : World} {B n : Nat} {e : TypeId} {v : Value} {l : Prl} (HN : n = l.length) (h : w.ownsRow B e 2 v n ((fl l).map (Value.int .i64))) : Prs w v l := by
  subst HN
  exact own_prs h
theorem law_two {w' : World} {g : Nat} {he hp ho hn hv e : Int} {hl : Bool} {l : ByteArray} {v o p : Int} {so st : Bool} {sv : Int} {a : Option Addr} {pn c : Nat} {sx : Bool} {sk sy : Int} {a' : Option Addr} {fn c' : Nat} (h : HdS w' g 0 ⟨he, hp, ho, hn, hv⟩) (h1 : w'.heap[g + 1]? = some (.cells #[.int .i64 e, .bool hl, .string l, .int .i64 v, .int .i64 o, .int .i64 p, .bool so, .bool st, .int .i64 sv, .slice a pn c, .bool sx, .int .i64 sk, .int .i64 sy, .slice a' fn c'] 35)) : w'.cell? ⟨g, 0, none⟩ = some (.int .i64 he) ∧ w'.cell? ⟨g, 1, none⟩ = some (.int .i64 hp) ∧ w'.cell? ⟨g, 2, none⟩ = some (.int .i64 ho) ∧ w'.cell? ⟨g, 3, none⟩ = some (.int .i64 hn) ∧ w'.cell? ⟨g, 4, none⟩ = some (.int .i64 hv) ∧ w'.cell? ⟨g + 1, 0, none⟩ = some (.int .i64 e) ∧ w'.cell? ⟨g + 1, 1, none⟩ = some (.bool hl) ∧ w'.cell? ⟨g + 1, 2, none⟩ = some (.string l) ∧ w'.cell? ⟨g + 1, 3, none⟩ = some (.int .i64 v) ∧ w'.cell? ⟨g + 1, 4, none⟩ = some (.int .i64 o) ∧ w'.cell? ⟨g + 1, 5, none⟩ = some (.int .i64 p) ∧ w'.cell? ⟨g + 1, 6, none⟩ = some (.bool so) ∧ w'.cell? ⟨g + 1, 7, none⟩ = some (.bool st) ∧ w'.cell? ⟨g + 1, 8, none⟩ = some (.int .i64 sv) ∧ w'.cell? ⟨g + 1, 9, none⟩ = some (.slice a pn c) ∧ w'.cell? ⟨g + 1, 10, none⟩ = some (.bool sx) ∧ w'.cell? ⟨g + 1, 11, none⟩ = some (.int .i64 sk) ∧ w'.cell? ⟨g + 1, 12, none⟩ = some (.int .i64 sy) ∧ w'.cell? ⟨g + 1, 13, none⟩ = some (.slice a' fn c') := by
  obtain ⟨⟨p0, p1, p2, p3, p4, p5, p6, p7, p8, p9, p10, p11, p12, p13⟩, -⟩ := fourteen h1
  exact ⟨h.c0, h.c1, h.c2, h.c3, h.c4, p0, p1, p2, p3, p4, p5, p6, p7, p8, p9, p10, p11, p12, p13⟩
theorem below_set7a {w w' : World} {N : Nat} (h : Below N w w') (b : Nat) (hb : N ≤ b) (x0 x1 x2 x3 x4 x5 x6 : Value) : Below N w (((((((w'.setCell ⟨b, 0, none⟩ x0).setCell ⟨b, 1, none⟩ x1).setCell ⟨b, 2, none⟩ x2).setCell ⟨b, 3, none⟩ x3).setCell ⟨b, 4, none⟩ x4).setCell ⟨b, 5, none⟩ x5).setCell ⟨b, 6, none⟩ x6) :=
  ((((((h.setCell hb _).setCell hb _).setCell hb _).setCell hb _).setCell hb _).setCell hb _).setCell hb _
set_option maxRecDepth 100000 in
set_option maxHeartbeats 8000000 in
theorem fnExactSeeReply_walk (he hp ho hn hv : Int) (s : ByteArray) (e : Int) (hl : Bool) (l : ByteArray) (v o p : Int) (so st : Bool) (sv : Int) (sp : Value) (ps : List Int) (sx : Bool) (sk sy : Int) (sf : Value) (f : Prl) (w : World) (hls : s.size ≤ maxLen) (hs : l.size ≤ maxLen) (hp0 : Ints .i64 w sp ps) (hpl : ps.length ≤ maxLen) (hv0 : Prs w sf f) (hfl : f.length ≤ maxLen) :
    Calls Tryz.prog 3 #[.agg #[.int .i64 he, .int .i64 hp, .int .i64 ho, .int .i64 hn, .int .i64 hv], .string s, .agg #[.int .i64 e, .bool hl, .string l, .int .i64 v, .int .i64 o, .int .i64 p, .bool so, .bool st, .int .i64 sv, sp, .bool sx, .int .i64 sk, .int .i64 sy, sf]] w fun x w' => x = .returned (.bool true) ∧ Below w.heap.size w w' := by
  obtain ⟨a, c, rfl⟩ := hp0.shape
  obtain ⟨a', c', rfl⟩ := hv0.shape
  unfold maxLen at hls
  by_cases hsz : 1048576 < s.size
  · generalize ps.length = pn at *
    generalize f.length = fn at *
    clear hp0 hv0
    go_enter Tryz.func3, Tryz.ntmps3
    go_wp2
    go_ret
    exact ⟨rfl, two_new _ _⟩
  have hsz' : s.size ≤ 1048576 := by omega
  have hZ := fun w => szReply_any e hl l v o p so st sv a ps.length c sx sk sy a' f.length c' w hs hpl hfl
  by_cases h : l.size + ps.length + f.length ≤ 1048576
  · rw [if_pos h] at hZ
    have hTh := fun w => toHead_any he hp ho hn hv w
    have hT := fun w' hb => toReply_any e hl l v o p so st sv _ ps sx sk sy _ f w' (hp0.below (w' := w') hb) (hv0.below hb) (by omega) (by omega)
    have hE := fun u u' z z' w' h1 h2 h3 h4 => eqReply_same e hl l v o p so st sv u u' ps sx sk sy z z' f w' h1 h2 h3 h4 (by omega) (by omega)
    have hS := fun u z w h1 h2 => specSeeReply_any he hp ho hn hv s e hl l v o p so st sv u sx sk sy z ps f w h1 h2 (by omega) (by omega) hsz'
    have hI := fun u z w h1 h2 => implSeeReply_any he hp ho hn hv s e hl l v o p so st sv u sx sk sy z ps f w h1 h2 (by omega) (by omega) hsz' (by omega)
    have h2 : ¬ ((1048576 - l.size - ps.length - f.length : Int) < 0) := by omega
    generalize (1048576 - l.size - ps.length - f.length : Int) = z at *
    obtain ⟨c0, k0, f0, x0, x1, x2, x3, hV⟩ := seeV_shape he hp ho hn hv s e hl l v o p so st sv ps sx sk sy f
    rw [hV] at hS hI
    unfold rpV at hT hE hS hI
    unfold hdV at hTh hS hI
    obtain ⟨pn, hpn⟩ : ∃ pn, pn = ps.length := ⟨_, rfl⟩
    obtain ⟨fn, hfn⟩ : ∃ fn, fn = f.length := ⟨_, rfl⟩
    have HPN : Hid (pn = ps.length) := hpn
    have HFN : Hid (fn = f.length) := hfn
    rw [← hpn, ← hfn] at hZ hT ⊢
    clear hpn hfn hp0 hv0 hpl hfl h hs hV
    obtain ⟨W, hW⟩ : ∃ W, W = (w.alloc (.cells #[.int .i64 he, .int .i64 hp, .int .i64 ho, .int .i64 hn, .int .i64 hv] 23)).alloc (.cells #[.int .i64 e, .bool hl, .string l, .int .i64 v, .int .i64 o, .int .i64 p, .bool so, .bool st, .int .i64 sv, .slice a pn c, .bool sx, .int .i64 sk, .int .i64 sy, .slice a' fn c'] 35) := ⟨_, rfl⟩
    have HW : Hid ((w.alloc (.cells #[.int .i64 he, .int .i64 hp, .int .i64 ho, .int .i64 hn, .int .i64 hv] 23)).alloc (.cells #[.int .i64 e, .bool hl, .string l, .int .i64 v, .int .i64 o, .int .i64 p, .bool so, .bool st, .int .i64 sv, .slice a pn c, .bool sx, .int .i64 sk, .int .i64 sy, .slice a' fn c'] 35) = W) := hW.symm
    have hb0 : Below w.heap.size w W := by rw [hW]; exact two_new _ _
    have HA : HdS W w.heap.size 0 ⟨he, hp, ho, hn, hv⟩ ∧ W.heap[w.heap.size + 1]? = some (.cells #[.int .i64 e, .bool hl, .string l, .int .i64 v, .int .i64 o, .int .i64 p, .bool so, .bool st, .int .i64 sv, .slice a pn c, .bool sx, .int .i64 sk, .int .i64 sy, .slice a' fn c'] 35) := by
      rw [hW]
      exact ⟨(HdS.new w ⟨he, hp, ho, hn, hv⟩ _).below (one_new _) (by simp), heap_new2 w _ _⟩
    have hlt : w.heap.size + 1 < W.heap.size := (Array.getElem?_eq_some_iff.1 HA.2).1
    have HAA : Hid (∀ w', Below W.heap.size W w' → w'.cell? ⟨w.heap.size, 0, none⟩ = some (.int .i64 he) ∧ w'.cell? ⟨w.heap.size, 1, none⟩ = some (.int .i64 hp) ∧ w'.cell? ⟨w.heap.size, 2, none⟩ = some (.int .i64 ho) ∧ w'.cell? ⟨w.heap.size, 3, none⟩ = some (.int .i64 hn) ∧ w'.cell? ⟨w.heap.size, 4, none⟩ = some (.int .i64 hv) ∧ w'.cell? ⟨w.heap.size + 1, 0, none⟩ = some (.int .i64 e) ∧ w'.cell? ⟨w.heap.size + 1, 1, none⟩ = some (.bool hl) ∧ w'.cell? ⟨w.heap.size + 1, 2, none⟩ = some (.string l) ∧ w'.cell? ⟨w.heap.size + 1, 3, none⟩ = some (.int .i64 v) ∧ w'.cell? ⟨w.heap.size + 1, 4, none⟩ = some (.int .i64 o) ∧ w'.cell? ⟨w.heap.size + 1, 5, none⟩ = some (.int .i64 p) ∧ w'.cell? ⟨w.heap.size + 1, 6, none⟩ = some (.bool so) ∧ w'.cell? ⟨w.heap.size + 1, 7, none⟩ = some (.bool st) ∧ w'.cell? ⟨w.heap.size + 1, 8, none⟩ = some (.int .i64 sv) ∧ w'.cell? ⟨w.heap.size + 1, 9, none⟩ = some (.slice a pn c) ∧ w'.cell? ⟨w.heap.size + 1, 10, none⟩ = some (.bool sx) ∧ w'.cell? ⟨w.heap.size + 1, 11, none⟩ = some (.int .i64 sk) ∧ w'.cell? ⟨w.heap.size + 1, 12, none⟩ = some (.int .i64 sy) ∧ w'.cell? ⟨w.heap.size + 1, 13, none⟩ = some (.slice a' fn c')) := fun w' hb => law_two (HA.1.below hb (by omega)) ((hb.block _ hlt).trans HA.2)
    obtain ⟨⟨p0, p1, p2, p3, p4, p5, p6, p7, p8, p9, p10, p11, p12, p13⟩, -⟩ := fourteen HA.2
    obtain ⟨d0, d1, d2, d3, d4⟩ := HA.1
    clear hW HA
    go_enter Tryz.func3, Tryz.ntmps3
    go_wp2_with fail
    rw [HW.out]
    go_wp2_with fail
    refine (hZ _).mono ?_
    rintro x w1 ⟨rfl, hb1⟩
    have hB1 := below_after_of hb0 hb1
    have hl1 : w.heap.size + 1 < w1.heap.size := Nat.lt_of_lt_of_le hlt hb1.size
    have HA1 : Hid (∀ w', Below w1.heap.size w1 w' → w'.cell? ⟨w.heap.size, 0, none⟩ = some (.int .i64 he) ∧ w'.cell? ⟨w.heap.size, 1, none⟩ = some (.int .i64 hp) ∧ w'.cell? ⟨w.heap.size, 2, none⟩ = some (.int .i64 ho) ∧ w'.cell? ⟨w.heap.size, 3, none⟩ = some (.int .i64 hn) ∧ w'.cell? ⟨w.heap.size, 4, none⟩ = some (.int .i64 hv) ∧ w'.cell? ⟨w.heap.size + 1, 0, none⟩ = some (.int .i64 e) ∧ w'.cell? ⟨w.heap.size + 1, 1, none⟩ = some (.bool hl) ∧ w'.cell? ⟨w.heap.size + 1, 2, none⟩ = some (.string l) ∧ w'.cell? ⟨w.heap.size + 1, 3, none⟩ = some (.int .i64 v) ∧ w'.cell? ⟨w.heap.size + 1, 4, none⟩ = some (.int .i64 o) ∧ w'.cell? ⟨w.heap.size + 1, 5, none⟩ = some (.int .i64 p) ∧ w'.cell? ⟨w.heap.size + 1, 6, none⟩ = some (.bool so) ∧ w'.cell? ⟨w.heap.size + 1, 7, none⟩ = some (.bool st) ∧ w'.cell? ⟨w.heap.size + 1, 8, none⟩ = some (.int .i64 sv) ∧ w'.cell? ⟨w.heap.size + 1, 9, none⟩ = some (.slice a pn c) ∧ w'.cell? ⟨w.heap.size + 1, 10, none⟩ = some (.bool sx) ∧ w'.cell? ⟨w.heap.size + 1, 11, none⟩ = some (.int .i64 sk) ∧ w'.cell? ⟨w.heap.size + 1, 12, none⟩ = some (.int .i64 sy) ∧ w'.cell? ⟨w.heap.size + 1, 13, none⟩ = some (.slice a' fn c')) := fun w' hb => HAA.out _ (below_after_of hb1 hb)
    clear hZ p0 p1 p2 p3 p4 p5 p6 p7 p8 p9 p10 p11 p12 p13 d0 d1 d2 d3 d4 HAA hb1
    go_wp2_with fail
    have q0 : ∀ w', Below w1.heap.size w1 w' → w'.cell? ⟨w.heap.size, 0, none⟩ = some (.int .i64 he) := fun w' h => (HA1.out w' h).1
    have q1 : ∀ w', Below w1.heap.size w1 w' → w'.cell? ⟨w.heap.size, 1, none⟩ = some (.int .i64 hp) := fun w' h => (HA1.out w' h).2.1
    have q2 : ∀ w', Below w1.heap.size w1 w' → w'.cell? ⟨w.heap.size, 2, none⟩ = some (.int .i64 ho) := fun w' h => (HA1.out w' h).2.2.1
    have q3 : ∀ w', Below w1.heap.size w1 w' → w'.cell? ⟨w.heap.size, 3, none⟩ = some (.int .i64 hn) := fun w' h => (HA1.out w' h).2.2.2.1
    have q4 : ∀ w', Below w1.heap.size w1 w' → w'.cell? ⟨w.heap.size, 4, none⟩ = some (.int .i64 hv) := fun w' h => (HA1.out w' h).2.2.2.2.1
    have q5 : ∀ w', Below w1.heap.size w1 w' → w'.cell? ⟨w.heap.size + 1, 0, none⟩ = some (.int .i64 e) := fun w' h => (HA1.out w' h).2.2.2.2.2.1
    have q6 : ∀ w', Below w1.heap.size w1 w' → w'.cell? ⟨w.heap.size + 1, 1, none⟩ = some (.bool hl) := fun w' h => (HA1.out w' h).2.2.2.2.2.2.1
    have q7 : ∀ w', Below w1.heap.size w1 w' → w'.cell? ⟨w.heap.size + 1, 2, none⟩ = some (.string l) := fun w' h => (HA1.out w' h).2.2.2.2.2.2.2.1
    have q8 : ∀ w', Below w1.heap.size w1 w' → w'.cell? ⟨w.heap.size + 1, 3, none⟩ = some (.int .i64 v) := fun w' h => (HA1.out w' h).2.2.2.2.2.2.2.2.1
    have q9 : ∀ w', Below w1.heap.size w1 w' → w'.cell? ⟨w.heap.size + 1, 4, none⟩ = some (.int .i64 o) := fun w' h => (HA1.out w' h).2.2.2.2.2.2.2.2.2.1
    have q10 : ∀ w', Below w1.heap.size w1 w' → w'.cell? ⟨w.heap.size + 1, 5, none⟩ = some (.int .i64 p) := fun w' h => (HA1.out w' h).2.2.2.2.2.2.2.2.2.2.1
    have q11 : ∀ w', Below w1.heap.size w1 w' → w'.cell? ⟨w.heap.size + 1, 6, none⟩ = some (.bool so) := fun w' h => (HA1.out w' h).2.2.2.2.2.2.2.2.2.2.2.1
    have q12 : ∀ w', Below w1.heap.size w1 w' → w'.cell? ⟨w.heap.size + 1, 7, none⟩ = some (.bool st) := fun w' h => (HA1.out w' h).2.2.2.2.2.2.2.2.2.2.2.2.1
    have q13 : ∀ w', Below w1.heap.size w1 w' → w'.cell? ⟨w.heap.size + 1, 8, none⟩ = some (.int .i64 sv) := fun w' h => (HA1.out w' h).2.2.2.2.2.2.2.2.2.2.2.2.2.1
    have q14 : ∀ w', Below w1.heap.size w1 w' → w'.cell? ⟨w.heap.size + 1, 9, none⟩ = some (.slice a pn c) := fun w' h => (HA1.out w' h).2.2.2.2.2.2.2.2.2.2.2.2.2.2.1
    have q15 : ∀ w', Below w1.heap.size w1 w' → w'.cell? ⟨w.heap.size + 1, 10, none⟩ = some (.bool sx) := fun w' h => (HA1.out w' h).2.2.2.2.2.2.2.2.2.2.2.2.2.2.2.1
    have q16 : ∀ w', Below w1.heap.size w1 w' → w'.cell? ⟨w.heap.size + 1, 11, none⟩ = some (.int .i64 sk) := fun w' h => (HA1.out w' h).2.2.2.2.2.2.2.2.2.2.2.2.2.2.2.2.1
    have q17 : ∀ w', Below w1.heap.size w1 w' → w'.cell? ⟨w.heap.size + 1, 12, none⟩ = some (.int .i64 sy) := fun w' h => (HA1.out w' h).2.2.2.2.2.2.2.2.2.2.2.2.2.2.2.2.2.1
    have q18 : ∀ w', Below w1.heap.size w1 w' → w'.cell? ⟨w.heap.size + 1, 13, none⟩ = some (.slice a' fn c') := fun w' h => (HA1.out w' h).2.2.2.2.2.2.2.2.2.2.2.2.2.2.2.2.2.2
    have HBW : Hid (Below w.heap.size w w1) := hB1
    refine Code.wp_mono (Q := fun ex a0 w' => ex = Exit.normal ∧ ∃ (g : Nat) (a1 : Option Addr) (c1 : Nat) (a1' : Option Addr) (c1' : Nat), a0 = { tmps := #[.agg #[.int .i64 he, .int .i64 hp, .int .i64 ho, .int .i64 hn, .int .i64 hv], .string s, .agg #[.int .i64 e, .bool hl, .string l, .int .i64 v, .int .i64 o, .int .i64 p, .bool so, .bool st, .int .i64 sv, .slice a pn c, .bool sx, .int .i64 sk, .int .i64 sy, .slice a' fn c'], .pointer (some ⟨w.heap.size, 0, none⟩), undef, .pointer (some ⟨w.heap.size + 1, 0, none⟩), .bool false, .int .i64 z, .pointer (some ⟨g, 0, none⟩), undef, undef, .string s, .int .i64 (s.size : Int), .bool (decide ((1048576 : Int) < (s.size : Int))), .agg #[.int .i64 e, .bool hl, .string l, .int .i64 v, .int .i64 o, .int .i64 p, .bool so, .bool st, .int .i64 sv, .slice a pn c, .bool sx, .int .i64 sk, .int .i64 sy, .slice a' fn c'], .int .i64 1048576, .int .i64 z, .int .i64 z, .bool (decide (z < 0)), .agg #[.int .i64 he, .int .i64 hp, .int .i64 ho, .int .i64 hn, .int .i64 hv], .agg #[.int .i64 he, .int .i64 hp, .int .i64 ho, .int .i64 hn, .int .i64 hv], .string s, .agg #[.int .i64 e, .bool hl, .string l, .int .i64 v, .int .i64 o, .int .i64 p, .bool so, .bool st, .int .i64 sv, .slice a pn c, .bool sx, .int .i64 sk, .int .i64 sy, .slice a' fn c'], .agg #[.int .i64 e, .bool hl, .string l, .int .i64 v, .int .i64 o, .int .i64 p, .bool so, .bool st, .int .i64 sv, .slice a1 pn c1, .bool sx, .int .i64 sk, .int .i64 sy, .slice a1' fn c1'], .agg #[.int .i64 c0, .int .i64 k0, .bool f0, .string x0, .int .i64 x1, .int .i64 x2, .int .i64 x3], undef, undef, undef, undef, undef, undef, undef, undef, undef, undef, undef, undef, undef, undef, undef, undef], defers := [] } ∧ AnB w' g c0 k0 f0 x0 x1 x2 x3 ∧ w1.heap.size ≤ g ∧ Below w1.heap.size w1 w') ?tail ?reg
    case reg =>
      refine wp_region_held_drew (S := fun w' => Below w1.heap.size w1 w') (by kernel_rfl) ((Below.refl _ _).drew) (fun hHeld => ?_)
      refine h_take (i := 0) (d := some 19) (v := ?vr1) (by rfl) (by kernel_rfl) (by kernel_rfl) (by kernel_rfl) (fun _ _ _ h => (by cases h.1)) (by rfl) ?hyr1 hHeld ?restr1
      case hyr1 =>
        intro o ho
        simp only [List.getElem?_toArray, List.getElem?_cons_zero, Option.some.injEq] at ho
        subst ho
        intro w' hSw
        first | (go_simp; done) | (go_simp; with_reducible rfl)
      try simp only [Act.put, List.setIfInBounds_toArray, List.set_cons_zero, List.set_cons_succ]
      refine h_take (i := 2) (d := some 21) (v := ?vr2) (by rfl) (by kernel_rfl) (by kernel_rfl) (by kernel_rfl) (fun _ _ _ h => (by cases h.1)) (by rfl) ?hyr2 hHeld ?restr2
      case hyr2 =>
        intro o ho
        simp only [List.getElem?_toArray, List.getElem?_cons_succ, List.getElem?_cons_zero, Option.some.injEq] at ho
        subst ho
        intro w' hSw
        first | (go_simp; done) | (go_simp; with_reducible rfl)
      try simp only [Act.put, List.setIfInBounds_toArray, List.set_cons_zero, List.set_cons_succ]
      refine h_take (i := 3) (d := some 22) (v := ?vr3) (by rfl) (by kernel_rfl) (by kernel_rfl) (by kernel_rfl) (fun _ _ _ h => (by cases h.1)) (by rfl) ?hyr3 hHeld ?restr3
      case hyr3 =>
        intro o ho
        simp only [List.getElem?_toArray, List.getElem?_cons_succ, List.getElem?_cons_zero, Option.some.injEq] at ho
        subst ho
        intro w' hSw
        first | (go_simp; done) | (go_simp; with_reducible rfl)
      try simp only [Act.put, List.setIfInBounds_toArray, List.set_cons_zero, List.set_cons_succ]
      refine wpAnyH_ready (rs := [1, 6]) (by kernel_rfl) (by simp) ?_
      refine AllReadyH.cons rfl (fun K hK => ?_) (AllReadyH.cons rfl (fun K hK => ?_) AllReadyH.nil)
      · go_simp
        refine (hTh _).mono ?_
        rintro x wq ⟨rfl, hbq⟩
        have hq := below_after_of hHeld hbq
        try (have G := G.below hbq)
        try clear hal
        refine hK.out _ _ ?_ (fun hHeld => ?_)
        · exact hq
        clear hK K
        try simp only [Act.put, List.setIfInBounds_toArray, List.set_cons_zero, List.set_cons_succ]
        refine wpAnyH_ready (rs := [4, 6]) (by kernel_rfl) (by simp) ?_
        refine AllReadyH.cons rfl (fun K hK => ?_) (AllReadyH.cons rfl (fun K hK => ?_) AllReadyH.nil)
        · go_simp
          refine (hT _ (below_after_of HBW.out hHeld)).mono ?_
          rintro x wq ⟨a1, c1, a1', c1', rfl, hbq, o1, o1'⟩
          have hq := below_after_of hHeld hbq
          try (have G := G.below hbq)
          try clear hal
          have P1 := own_ints_se HPN.out o1
          have P1' := own_prs_se HFN.out o1'
          clear o1 o1'
          refine hK.out _ _ ?_ (fun hHeld => ?_)
          · exact hq
          clear hK K
          try simp only [Act.put, List.setIfInBounds_toArray, List.set_cons_zero, List.set_cons_succ]
          refine wpAnyH_ready (rs := [5, 6]) (by kernel_rfl) (by simp) ?_
          refine AllReadyH.cons rfl (fun K hK => ?_) (AllReadyH.cons rfl (fun K hK => ?_) AllReadyH.nil)
          · go_simp
            refine (hS _ _ _ P1 P1').mono ?_
            rintro x wq ⟨rfl, hbq⟩
            have hq := below_after_of hHeld hbq
            try (have G := G.below hbq)
            try clear hal
            refine hK.out _ _ ?_ (fun hHeld => ?_)
            · exact hq
            clear hK K
            try simp only [Act.put, List.setIfInBounds_toArray, List.set_cons_zero, List.set_cons_succ]
            refine wpAnyH_ready (rs := [6]) (by kernel_rfl) (by simp) ?_
            refine AllReadyH.cons rfl (fun K hK => ?_) AllReadyH.nil
            · go_simp
              first | (have G := AnB.new wq 0 0 false ⟨#[]⟩ 0 0 0; have hgg := hq.size; have hal := hq) | (have G := (AnB.new w1 0 0 false ⟨#[]⟩ 0 0 0).drew; have hgg := Nat.le_refl w1.heap.size)
              try (have P1 := P1.below (one_new (.cells #[.int .i64 0, .int .i64 0, .bool false, .string ⟨#[]⟩, .int .i64 0, .int .i64 0, .int .i64 0] 41)))
              try (have P1' := P1'.below (one_new (.cells #[.int .i64 0, .int .i64 0, .bool false, .string ⟨#[]⟩, .int .i64 0, .int .i64 0, .int .i64 0] 41)))
              refine hK.out _ _ ?_ (fun hHeld => ?_)
              · exact below_after_of hHeld (one_new _)
              clear hK K
              try simp only [Act.put, List.setIfInBounds_toArray, List.set_cons_zero, List.set_cons_succ]
              have ⟨v0, v1, v2, v3, v4, v5, v6, u0, u1, u2, u3, u4, u5, u6⟩ := seven_cells G.h
              have hgl := G.lt
              refine wpAnyH_ready (rs := [7]) (by kernel_rfl) (by simp) ?_
              refine AllReadyH.cons rfl (fun K hK => ?_) AllReadyH.nil
              go_simp
              refine hK.out _ _ ?_ (fun hHeld => ?_)
              · first | exact below_after_of hal (one_new _) | exact below_set7a hHeld _ hgg _ _ _ _ _ _ _
              clear hK K
              try simp only [Act.put, List.setIfInBounds_toArray, List.set_cons_zero, List.set_cons_succ]
              refine wpAnyH_done (by kernel_rfl) ?_ _
              refine ⟨rfl, _, a1, c1, a1', c1', by with_reducible rfl, ?_, hgg, hHeld⟩
              first | (have hx := hal; exact AnB.new _ _ _ _ _ _ _ _) | exact G.set _ _ _ _ _ _ _
          · go_simp
            first | (have G := AnB.new wq 0 0 false ⟨#[]⟩ 0 0 0; have hgg := hq.size; have hal := hq) | (have G := (AnB.new w1 0 0 false ⟨#[]⟩ 0 0 0).drew; have hgg := Nat.le_refl w1.heap.size)
            try (have P1 := P1.below (one_new (.cells #[.int .i64 0, .int .i64 0, .bool false, .string ⟨#[]⟩, .int .i64 0, .int .i64 0, .int .i64 0] 41)))
            try (have P1' := P1'.below (one_new (.cells #[.int .i64 0, .int .i64 0, .bool false, .string ⟨#[]⟩, .int .i64 0, .int .i64 0, .int .i64 0] 41)))
            refine hK.out _ _ ?_ (fun hHeld => ?_)
            · exact below_after_of hHeld (one_new _)
            clear hK K
            try simp only [Act.put, List.setIfInBounds_toArray, List.set_cons_zero, List.set_cons_succ]
            refine wpAnyH_ready (rs := [5]) (by kernel_rfl) (by simp) ?_
            refine AllReadyH.cons rfl (fun K hK => ?_) AllReadyH.nil
            · go_simp
              refine (hS _ _ _ P1 P1').mono ?_
              rintro x wq ⟨rfl, hbq⟩
              have hq := below_after_of hHeld hbq
              try (have G := G.below hbq)
              try clear hal
              refine hK.out _ _ ?_ (fun hHeld => ?_)
              · exact hq
              clear hK K
              try simp only [Act.put, List.setIfInBounds_toArray, List.set_cons_zero, List.set_cons_succ]
              have ⟨v0, v1, v2, v3, v4, v5, v6, u0, u1, u2, u3, u4, u5, u6⟩ := seven_cells G.h
              have hgl := G.lt
              refine wpAnyH_ready (rs := [7]) (by kernel_rfl) (by simp) ?_
              refine AllReadyH.cons rfl (fun K hK => ?_) AllReadyH.nil
              go_simp
              refine hK.out _ _ ?_ (fun hHeld => ?_)
              · first | exact below_after_of hal (one_new _) | exact below_set7a hHeld _ hgg _ _ _ _ _ _ _
              clear hK K
              try simp only [Act.put, List.setIfInBounds_toArray, List.set_cons_zero, List.set_cons_succ]
              refine wpAnyH_done (by kernel_rfl) ?_ _
              refine ⟨rfl, _, a1, c1, a1', c1', by with_reducible rfl, ?_, hgg, hHeld⟩
              first | (have hx := hal; exact AnB.new _ _ _ _ _ _ _ _) | exact G.set _ _ _ _ _ _ _
        · go_simp
          first | (have G := AnB.new wq 0 0 false ⟨#[]⟩ 0 0 0; have hgg := hq.size; have hal := hq) | (have G := (AnB.new w1 0 0 false ⟨#[]⟩ 0 0 0).drew; have hgg := Nat.le_refl w1.heap.size)
          try (have P1 := P1.below (one_new (.cells #[.int .i64 0, .int .i64 0, .bool false, .string ⟨#[]⟩, .int .i64 0, .int .i64 0, .int .i64 0] 41)))
          try (have P1' := P1'.below (one_new (.cells #[.int .i64 0, .int .i64 0, .bool false, .string ⟨#[]⟩, .int .i64 0, .int .i64 0, .int .i64 0] 41)))
          refine hK.out _ _ ?_ (fun hHeld => ?_)
          · exact below_after_of hHeld (one_new _)
          clear hK K
          try simp only [Act.put, List.setIfInBounds_toArray, List.set_cons_zero, List.set_cons_succ]
          refine wpAnyH_ready (rs := [4]) (by kernel_rfl) (by simp) ?_
          refine AllReadyH.cons rfl (fun K hK => ?_) AllReadyH.nil
          · go_simp
            refine (hT _ (below_after_of HBW.out hHeld)).mono ?_
            rintro x wq ⟨a1, c1, a1', c1', rfl, hbq, o1, o1'⟩
            have hq := below_after_of hHeld hbq
            try (have G := G.below hbq)
            try clear hal
            have P1 := own_ints_se HPN.out o1
            have P1' := own_prs_se HFN.out o1'
            clear o1 o1'
            refine hK.out _ _ ?_ (fun hHeld => ?_)
            · exact hq
            clear hK K
            try simp only [Act.put, List.setIfInBounds_toArray, List.set_cons_zero, List.set_cons_succ]
            refine wpAnyH_ready (rs := [5]) (by kernel_rfl) (by simp) ?_
            refine AllReadyH.cons rfl (fun K hK => ?_) AllReadyH.nil
            · go_simp
              refine (hS _ _ _ P1 P1').mono ?_
              rintro x wq ⟨rfl, hbq⟩
              have hq := below_after_of hHeld hbq
              try (have G := G.below hbq)
              try clear hal
              refine hK.out _ _ ?_ (fun hHeld => ?_)
              · exact hq
              clear hK K
              try simp only [Act.put, List.setIfInBounds_toArray, List.set_cons_zero, List.set_cons_succ]
              have ⟨v0, v1, v2, v3, v4, v5, v6, u0, u1, u2, u3, u4, u5, u6⟩ := seven_cells G.h
              have hgl := G.lt
              refine wpAnyH_ready (rs := [7]) (by kernel_rfl) (by simp) ?_
              refine AllReadyH.cons rfl (fun K hK => ?_) AllReadyH.nil
              go_simp
              refine hK.out _ _ ?_ (fun hHeld => ?_)
              · first | exact below_after_of hal (one_new _) | exact below_set7a hHeld _ hgg _ _ _ _ _ _ _
              clear hK K
              try simp only [Act.put, List.setIfInBounds_toArray, List.set_cons_zero, List.set_cons_succ]
              refine wpAnyH_done (by kernel_rfl) ?_ _
              refine ⟨rfl, _, a1, c1, a1', c1', by with_reducible rfl, ?_, hgg, hHeld⟩
              first | (have hx := hal; exact AnB.new _ _ _ _ _ _ _ _) | exact G.set _ _ _ _ _ _ _
      · go_simp
        first | (have G := AnB.new wq 0 0 false ⟨#[]⟩ 0 0 0; have hgg := hq.size; have hal := hq) | (have G := (AnB.new w1 0 0 false ⟨#[]⟩ 0 0 0).drew; have hgg := Nat.le_refl w1.heap.size)
        try (have P1 := P1.below (one_new (.cells #[.int .i64 0, .int .i64 0, .bool false, .string ⟨#[]⟩, .int .i64 0, .int .i64 0, .int .i64 0] 41)))
        try (have P1' := P1'.below (one_new (.cells #[.int .i64 0, .int .i64 0, .bool false, .string ⟨#[]⟩, .int .i64 0, .int .i64 0, .int .i64 0] 41)))
        refine hK.out _ _ ?_ (fun hHeld => ?_)
        · exact below_after_of hHeld (one_new _)
        clear hK K
        try simp only [Act.put, List.setIfInBounds_toArray, List.set_cons_zero, List.set_cons_succ]
        refine wpAnyH_ready (rs := [1]) (by kernel_rfl) (by simp) ?_
        refine AllReadyH.cons rfl (fun K hK => ?_) AllReadyH.nil
        · go_simp
          refine (hTh _).mono ?_
          rintro x wq ⟨rfl, hbq⟩
          have hq := below_after_of hHeld hbq
          try (have G := G.below hbq)
          try clear hal
          refine hK.out _ _ ?_ (fun hHeld => ?_)
          · exact hq
          clear hK K
          try simp only [Act.put, List.setIfInBounds_toArray, List.set_cons_zero, List.set_cons_succ]
          refine wpAnyH_ready (rs := [4]) (by kernel_rfl) (by simp) ?_
          refine AllReadyH.cons rfl (fun K hK => ?_) AllReadyH.nil
          · go_simp
            refine (hT _ (below_after_of HBW.out hHeld)).mono ?_
            rintro x wq ⟨a1, c1, a1', c1', rfl, hbq, o1, o1'⟩
            have hq := below_after_of hHeld hbq
            try (have G := G.below hbq)
            try clear hal
            have P1 := own_ints_se HPN.out o1
            have P1' := own_prs_se HFN.out o1'
            clear o1 o1'
            refine hK.out _ _ ?_ (fun hHeld => ?_)
            · exact hq
            clear hK K
            try simp only [Act.put, List.setIfInBounds_toArray, List.set_cons_zero, List.set_cons_succ]
            refine wpAnyH_ready (rs := [5]) (by kernel_rfl) (by simp) ?_
            refine AllReadyH.cons rfl (fun K hK => ?_) AllReadyH.nil
            · go_simp
              refine (hS _ _ _ P1 P1').mono ?_
              rintro x wq ⟨rfl, hbq⟩
              have hq := below_after_of hHeld hbq
              try (have G := G.below hbq)
              try clear hal
              refine hK.out _ _ ?_ (fun hHeld => ?_)
              · exact hq
              clear hK K
              try simp only [Act.put, List.setIfInBounds_toArray, List.set_cons_zero, List.set_cons_succ]
              have ⟨v0, v1, v2, v3, v4, v5, v6, u0, u1, u2, u3, u4, u5, u6⟩ := seven_cells G.h
              have hgl := G.lt
              refine wpAnyH_ready (rs := [7]) (by kernel_rfl) (by simp) ?_
              refine AllReadyH.cons rfl (fun K hK => ?_) AllReadyH.nil
              go_simp
              refine hK.out _ _ ?_ (fun hHeld => ?_)
              · first | exact below_after_of hal (one_new _) | exact below_set7a hHeld _ hgg _ _ _ _ _ _ _
              clear hK K
              try simp only [Act.put, List.setIfInBounds_toArray, List.set_cons_zero, List.set_cons_succ]
              refine wpAnyH_done (by kernel_rfl) ?_ _
              refine ⟨rfl, _, a1, c1, a1', c1', by with_reducible rfl, ?_, hgg, hHeld⟩
              first | (have hx := hal; exact AnB.new _ _ _ _ _ _ _ _) | exact G.set _ _ _ _ _ _ _
    rintro _ _ W3 ⟨rfl, g3, b1, d1, b1', d1', rfl, P3, hg3, hb3⟩
    dsimp only
    have hgl3 := P3.lt
    have hB3 := below_after_of hB1 hb3
    obtain ⟨e0, e1, e2, e3, e4, e5, e6, e7, e8, e9, e10, e11, e12, e13, e14, e15, e16, e17, e18⟩ := HA1.out _ hb3
    have HA3 : Hid (∀ w', Below W3.heap.size W3 w' → w'.cell? ⟨w.heap.size, 0, none⟩ = some (.int .i64 he) ∧ w'.cell? ⟨w.heap.size, 1, none⟩ = some (.int .i64 hp) ∧ w'.cell? ⟨w.heap.size, 2, none⟩ = some (.int .i64 ho) ∧ w'.cell? ⟨w.heap.size, 3, none⟩ = some (.int .i64 hn) ∧ w'.cell? ⟨w.heap.size, 4, none⟩ = some (.int .i64 hv) ∧ w'.cell? ⟨w.heap.size + 1, 0, none⟩ = some (.int .i64 e) ∧ w'.cell? ⟨w.heap.size + 1, 1, none⟩ = some (.bool hl) ∧ w'.cell? ⟨w.heap.size + 1, 2, none⟩ = some (.string l) ∧ w'.cell? ⟨w.heap.size + 1, 3, none⟩ = some (.int .i64 v) ∧ w'.cell? ⟨w.heap.size + 1, 4, none⟩ = some (.int .i64 o) ∧ w'.cell? ⟨w.heap.size + 1, 5, none⟩ = some (.int .i64 p) ∧ w'.cell? ⟨w.heap.size + 1, 6, none⟩ = some (.bool so) ∧ w'.cell? ⟨w.heap.size + 1, 7, none⟩ = some (.bool st) ∧ w'.cell? ⟨w.heap.size + 1, 8, none⟩ = some (.int .i64 sv) ∧ w'.cell? ⟨w.heap.size + 1, 9, none⟩ = some (.slice a pn c) ∧ w'.cell? ⟨w.heap.size + 1, 10, none⟩ = some (.bool sx) ∧ w'.cell? ⟨w.heap.size + 1, 11, none⟩ = some (.int .i64 sk) ∧ w'.cell? ⟨w.heap.size + 1, 12, none⟩ = some (.int .i64 sy) ∧ w'.cell? ⟨w.heap.size + 1, 13, none⟩ = some (.slice a' fn c')) := fun w' hb => HA1.out _ (below_after_of hb3 hb)
    have hl3 : w.heap.size + 1 < W3.heap.size := Nat.lt_of_lt_of_le hl1 hb3.size
    clear hS q0 q1 q2 q3 q4 q5 q6 q7 q8 q9 q10 q11 q12 q13 q14 q15 q16 q17 q18 HBW HA1 hB1 hb3
    go_wp2_with fail
    refine (hT _ hB3).mono ?_
    rintro x w4 ⟨a4, c4, a4', c4', rfl, hb4, o4, o4'⟩
    have P4 := own_ints_se HPN.out o4
    have P4' := own_prs_se HFN.out o4'
    clear o4 o4'
    obtain ⟨W4, hW4⟩ : ∃ W4, W4 = w4.alloc (.cells #[.int .i64 e, .bool hl, .string l, .int .i64 v, .int .i64 o, .int .i64 p, .bool so, .bool st, .int .i64 sv, .slice a4 pn c4, .bool sx, .int .i64 sk, .int .i64 sy, .slice a4' fn c4'] 52) := ⟨_, rfl⟩
    have HW4 : Hid (w4.alloc (.cells #[.int .i64 e, .bool hl, .string l, .int .i64 v, .int .i64 o, .int .i64 p, .bool so, .bool st, .int .i64 sv, .slice a4 pn c4, .bool sx, .int .i64 sk, .int .i64 sy, .slice a4' fn c4'] 52) = W4) := hW4.symm
    have hN4 : Below w4.heap.size w4 W4 := by rw [hW4]; exact one_new _
    have R4 : RpB W4 w4.heap.size e hl l v o p so st sv (.slice a4 pn c4) sx sk sy (.slice a4' fn c4') := by rw [hW4]; exact RpB.new w4 e hl l v o p so st sv _ sx sk sy _
    have hb4' := below_after_of hb4 hN4
    have I4 := P4.below hN4
    have I4' := P4'.below hN4
    have P4 := P3.below hb4'
    have hB4 := below_after_of hB3 hb4'
    have HI4 : Hid (∀ w', Below W4.heap.size W4 w' → Ints .i64 w' (.slice a4 pn c4) ps ∧ Prs w' (.slice a4' fn c4') f) := fun w' h => ⟨I4.below h, I4'.below h⟩
    have HA4 : Hid (∀ w', Below W4.heap.size W4 w' → w'.cell? ⟨w.heap.size, 0, none⟩ = some (.int .i64 he) ∧ w'.cell? ⟨w.heap.size, 1, none⟩ = some (.int .i64 hp) ∧ w'.cell? ⟨w.heap.size, 2, none⟩ = some (.int .i64 ho) ∧ w'.cell? ⟨w.heap.size, 3, none⟩ = some (.int .i64 hn) ∧ w'.cell? ⟨w.heap.size, 4, none⟩ = some (.int .i64 hv) ∧ w'.cell? ⟨w.heap.size + 1, 0, none⟩ = some (.int .i64 e) ∧ w'.cell? ⟨w.heap.size + 1, 1, none⟩ = some (.bool hl) ∧ w'.cell? ⟨w.heap.size + 1, 2, none⟩ = some (.string l) ∧ w'.cell? ⟨w.heap.size + 1, 3, none⟩ = some (.int .i64 v) ∧ w'.cell? ⟨w.heap.size + 1, 4, none⟩ = some (.int .i64 o) ∧ w'.cell? ⟨w.heap.size + 1, 5, none⟩ = some (.int .i64 p) ∧ w'.cell? ⟨w.heap.size + 1, 6, none⟩ = some (.bool so) ∧ w'.cell? ⟨w.heap.size + 1, 7, none⟩ = some (.bool st) ∧ w'.cell? ⟨w.heap.size + 1, 8, none⟩ = some (.int .i64 sv) ∧ w'.cell? ⟨w.heap.size + 1, 9, none⟩ = some (.slice a pn c) ∧ w'.cell? ⟨w.heap.size + 1, 10, none⟩ = some (.bool sx) ∧ w'.cell? ⟨w.heap.size + 1, 11, none⟩ = some (.int .i64 sk) ∧ w'.cell? ⟨w.heap.size + 1, 12, none⟩ = some (.int .i64 sy) ∧ w'.cell? ⟨w.heap.size + 1, 13, none⟩ = some (.slice a' fn c')) := fun w' hb => HA3.out _ (below_after_of hb4' hb)
    have HR4 : Hid (∀ w', Below W4.heap.size W4 w' → RpB w' w4.heap.size e hl l v o p so st sv (.slice a4 pn c4) sx sk sy (.slice a4' fn c4')) := fun w' h => R4.below h
    have hgl4 : g3 < w4.heap.size := Nat.lt_of_lt_of_le hgl3 hb4.size
    clear hb4 hW4 hN4 hb4' P3 HA3 hB3 R4 I4 I4' e0 e1 e2 e3 e4 e5 e6 e7 e8 e9 e10 e11 e12 e13 e14 e15 e16 e17 e18
    go_wp2_with fail
    rw [HW4.out]
    have q0 : ∀ w', Below W4.heap.size W4 w' → w'.cell? ⟨w.heap.size, 0, none⟩ = some (.int .i64 he) := fun w' h => (HA4.out w' h).1
    have q1 : ∀ w', Below W4.heap.size W4 w' → w'.cell? ⟨w.heap.size, 1, none⟩ = some (.int .i64 hp) := fun w' h => (HA4.out w' h).2.1
    have q2 : ∀ w', Below W4.heap.size W4 w' → w'.cell? ⟨w.heap.size, 2, none⟩ = some (.int .i64 ho) := fun w' h => (HA4.out w' h).2.2.1
    have q3 : ∀ w', Below W4.heap.size W4 w' → w'.cell? ⟨w.heap.size, 3, none⟩ = some (.int .i64 hn) := fun w' h => (HA4.out w' h).2.2.2.1
    have q4 : ∀ w', Below W4.heap.size W4 w' → w'.cell? ⟨w.heap.size, 4, none⟩ = some (.int .i64 hv) := fun w' h => (HA4.out w' h).2.2.2.2.1
    have q5 : ∀ w', Below W4.heap.size W4 w' → w'.cell? ⟨w.heap.size + 1, 0, none⟩ = some (.int .i64 e) := fun w' h => (HA4.out w' h).2.2.2.2.2.1
    have q6 : ∀ w', Below W4.heap.size W4 w' → w'.cell? ⟨w.heap.size + 1, 1, none⟩ = some (.bool hl) := fun w' h => (HA4.out w' h).2.2.2.2.2.2.1
    have q7 : ∀ w', Below W4.heap.size W4 w' → w'.cell? ⟨w.heap.size + 1, 2, none⟩ = some (.string l) := fun w' h => (HA4.out w' h).2.2.2.2.2.2.2.1
    have q8 : ∀ w', Below W4.heap.size W4 w' → w'.cell? ⟨w.heap.size + 1, 3, none⟩ = some (.int .i64 v) := fun w' h => (HA4.out w' h).2.2.2.2.2.2.2.2.1
    have q9 : ∀ w', Below W4.heap.size W4 w' → w'.cell? ⟨w.heap.size + 1, 4, none⟩ = some (.int .i64 o) := fun w' h => (HA4.out w' h).2.2.2.2.2.2.2.2.2.1
    have q10 : ∀ w', Below W4.heap.size W4 w' → w'.cell? ⟨w.heap.size + 1, 5, none⟩ = some (.int .i64 p) := fun w' h => (HA4.out w' h).2.2.2.2.2.2.2.2.2.2.1
    have q11 : ∀ w', Below W4.heap.size W4 w' → w'.cell? ⟨w.heap.size + 1, 6, none⟩ = some (.bool so) := fun w' h => (HA4.out w' h).2.2.2.2.2.2.2.2.2.2.2.1
    have q12 : ∀ w', Below W4.heap.size W4 w' → w'.cell? ⟨w.heap.size + 1, 7, none⟩ = some (.bool st) := fun w' h => (HA4.out w' h).2.2.2.2.2.2.2.2.2.2.2.2.1
    have q13 : ∀ w', Below W4.heap.size W4 w' → w'.cell? ⟨w.heap.size + 1, 8, none⟩ = some (.int .i64 sv) := fun w' h => (HA4.out w' h).2.2.2.2.2.2.2.2.2.2.2.2.2.1
    have q14 : ∀ w', Below W4.heap.size W4 w' → w'.cell? ⟨w.heap.size + 1, 9, none⟩ = some (.slice a pn c) := fun w' h => (HA4.out w' h).2.2.2.2.2.2.2.2.2.2.2.2.2.2.1
    have q15 : ∀ w', Below W4.heap.size W4 w' → w'.cell? ⟨w.heap.size + 1, 10, none⟩ = some (.bool sx) := fun w' h => (HA4.out w' h).2.2.2.2.2.2.2.2.2.2.2.2.2.2.2.1
    have q16 : ∀ w', Below W4.heap.size W4 w' → w'.cell? ⟨w.heap.size + 1, 11, none⟩ = some (.int .i64 sk) := fun w' h => (HA4.out w' h).2.2.2.2.2.2.2.2.2.2.2.2.2.2.2.2.1
    have q17 : ∀ w', Below W4.heap.size W4 w' → w'.cell? ⟨w.heap.size + 1, 12, none⟩ = some (.int .i64 sy) := fun w' h => (HA4.out w' h).2.2.2.2.2.2.2.2.2.2.2.2.2.2.2.2.2.1
    have q18 : ∀ w', Below W4.heap.size W4 w' → w'.cell? ⟨w.heap.size + 1, 13, none⟩ = some (.slice a' fn c') := fun w' h => (HA4.out w' h).2.2.2.2.2.2.2.2.2.2.2.2.2.2.2.2.2.2
    have r0 : ∀ w', Below W4.heap.size W4 w' → w'.cell? ⟨w4.heap.size, 0, none⟩ = some (.int .i64 e) := fun w' h => (HR4.out w' h).cells.1
    have r1 : ∀ w', Below W4.heap.size W4 w' → w'.cell? ⟨w4.heap.size, 1, none⟩ = some (.bool hl) := fun w' h => (HR4.out w' h).cells.2.1
    have r2 : ∀ w', Below W4.heap.size W4 w' → w'.cell? ⟨w4.heap.size, 2, none⟩ = some (.string l) := fun w' h => (HR4.out w' h).cells.2.2.1
    have r3 : ∀ w', Below W4.heap.size W4 w' → w'.cell? ⟨w4.heap.size, 3, none⟩ = some (.int .i64 v) := fun w' h => (HR4.out w' h).cells.2.2.2.1
    have r4 : ∀ w', Below W4.heap.size W4 w' → w'.cell? ⟨w4.heap.size, 4, none⟩ = some (.int .i64 o) := fun w' h => (HR4.out w' h).cells.2.2.2.2.1
    have r5 : ∀ w', Below W4.heap.size W4 w' → w'.cell? ⟨w4.heap.size, 5, none⟩ = some (.int .i64 p) := fun w' h => (HR4.out w' h).cells.2.2.2.2.2.1
    have r6 : ∀ w', Below W4.heap.size W4 w' → w'.cell? ⟨w4.heap.size, 6, none⟩ = some (.bool so) := fun w' h => (HR4.out w' h).cells.2.2.2.2.2.2.1
    have r7 : ∀ w', Below W4.heap.size W4 w' → w'.cell? ⟨w4.heap.size, 7, none⟩ = some (.bool st) := fun w' h => (HR4.out w' h).cells.2.2.2.2.2.2.2.1
    have r8 : ∀ w', Below W4.heap.size W4 w' → w'.cell? ⟨w4.heap.size, 8, none⟩ = some (.int .i64 sv) := fun w' h => (HR4.out w' h).cells.2.2.2.2.2.2.2.2.1
    have r9 : ∀ w', Below W4.heap.size W4 w' → w'.cell? ⟨w4.heap.size, 9, none⟩ = some (.slice a4 pn c4) := fun w' h => (HR4.out w' h).cells.2.2.2.2.2.2.2.2.2.1
    have r10 : ∀ w', Below W4.heap.size W4 w' → w'.cell? ⟨w4.heap.size, 10, none⟩ = some (.bool sx) := fun w' h => (HR4.out w' h).cells.2.2.2.2.2.2.2.2.2.2.1
    have r11 : ∀ w', Below W4.heap.size W4 w' → w'.cell? ⟨w4.heap.size, 11, none⟩ = some (.int .i64 sk) := fun w' h => (HR4.out w' h).cells.2.2.2.2.2.2.2.2.2.2.2.1
    have r12 : ∀ w', Below W4.heap.size W4 w' → w'.cell? ⟨w4.heap.size, 12, none⟩ = some (.int .i64 sy) := fun w' h => (HR4.out w' h).cells.2.2.2.2.2.2.2.2.2.2.2.2.1
    have r13 : ∀ w', Below W4.heap.size W4 w' → w'.cell? ⟨w4.heap.size, 13, none⟩ = some (.slice a4' fn c4') := fun w' h => (HR4.out w' h).cells.2.2.2.2.2.2.2.2.2.2.2.2.2
    refine Code.wp_mono (Q := fun ex a0 w' => ex = Exit.normal ∧ ∃ (g : Nat), a0 = { tmps := #[.agg #[.int .i64 he, .int .i64 hp, .int .i64 ho, .int .i64 hn, .int .i64 hv], .string s, .agg #[.int .i64 e, .bool hl, .string l, .int .i64 v, .int .i64 o, .int .i64 p, .bool so, .bool st, .int .i64 sv, .slice a pn c, .bool sx, .int .i64 sk, .int .i64 sy, .slice a' fn c'], .pointer (some ⟨w.heap.size, 0, none⟩), undef, .pointer (some ⟨w.heap.size + 1, 0, none⟩), .bool false, .int .i64 z, .pointer (some ⟨g3, 0, none⟩), .pointer (some ⟨w4.heap.size, 0, none⟩), .pointer (some ⟨g, 0, none⟩), .string s, .int .i64 (s.size : Int), .bool (decide ((1048576 : Int) < (s.size : Int))), .agg #[.int .i64 e, .bool hl, .string l, .int .i64 v, .int .i64 o, .int .i64 p, .bool so, .bool st, .int .i64 sv, .slice a pn c, .bool sx, .int .i64 sk, .int .i64 sy, .slice a' fn c'], .int .i64 1048576, .int .i64 z, .int .i64 z, .bool (decide (z < 0)), .agg #[.int .i64 he, .int .i64 hp, .int .i64 ho, .int .i64 hn, .int .i64 hv], .agg #[.int .i64 he, .int .i64 hp, .int .i64 ho, .int .i64 hn, .int .i64 hv], .string s, .agg #[.int .i64 e, .bool hl, .string l, .int .i64 v, .int .i64 o, .int .i64 p, .bool so, .bool st, .int .i64 sv, .slice a pn c, .bool sx, .int .i64 sk, .int .i64 sy, .slice a' fn c'], .agg #[.int .i64 e, .bool hl, .string l, .int .i64 v, .int .i64 o, .int .i64 p, .bool so, .bool st, .int .i64 sv, .slice b1 pn d1, .bool sx, .int .i64 sk, .int .i64 sy, .slice b1' fn d1'], .agg #[.int .i64 c0, .int .i64 k0, .bool f0, .string x0, .int .i64 x1, .int .i64 x2, .int .i64 x3], .agg #[.int .i64 e, .bool hl, .string l, .int .i64 v, .int .i64 o, .int .i64 p, .bool so, .bool st, .int .i64 sv, .slice a pn c, .bool sx, .int .i64 sk, .int .i64 sy, .slice a' fn c'], .agg #[.int .i64 e, .bool hl, .string l, .int .i64 v, .int .i64 o, .int .i64 p, .bool so, .bool st, .int .i64 sv, .slice a4 pn c4, .bool sx, .int .i64 sk, .int .i64 sy, .slice a4' fn c4'], .agg #[.int .i64 he, .int .i64 hp, .int .i64 ho, .int .i64 hn, .int .i64 hv], .agg #[.int .i64 he, .int .i64 hp, .int .i64 ho, .int .i64 hn, .int .i64 hv], .string s, .agg #[.int .i64 e, .bool hl, .string l, .int .i64 v, .int .i64 o, .int .i64 p, .bool so, .bool st, .int .i64 sv, .slice a4 pn c4, .bool sx, .int .i64 sk, .int .i64 sy, .slice a4' fn c4'], .agg #[.int .i64 c0, .int .i64 k0, .bool f0, .string x0, .int .i64 x1, .int .i64 x2, .int .i64 x3], undef, undef, undef, undef, undef, undef, undef, undef, undef], defers := [] } ∧ AnB w' g c0 k0 f0 x0 x1 x2 x3 ∧ W4.heap.size ≤ g ∧ Below W4.heap.size W4 w') ?tail2 ?reg2
    case reg2 =>
      refine wp_region_held_drew (S := fun w' => Below W4.heap.size W4 w') (by kernel_rfl) ((Below.refl _ _).drew) (fun hHeld => ?_)
      refine h_take (i := 0) (d := some 27) (v := ?vt1) (by rfl) (by kernel_rfl) (by kernel_rfl) (by kernel_rfl) (fun _ _ _ h => (by cases h.1)) (by rfl) ?hyt1 hHeld ?restt1
      case hyt1 =>
        intro o ho
        simp only [List.getElem?_toArray, List.getElem?_cons_zero, Option.some.injEq] at ho
        subst ho
        intro w' hSw
        first | (go_simp; done) | (go_simp; with_reducible rfl)
      try simp only [Act.put, List.setIfInBounds_toArray, List.set_cons_zero, List.set_cons_succ]
      refine h_take (i := 2) (d := some 29) (v := ?vt2) (by rfl) (by kernel_rfl) (by kernel_rfl) (by kernel_rfl) (fun _ _ _ h => (by cases h.1)) (by rfl) ?hyt2 hHeld ?restt2
      case hyt2 =>
        intro o ho
        simp only [List.getElem?_toArray, List.getElem?_cons_succ, List.getElem?_cons_zero, Option.some.injEq] at ho
        subst ho
        intro w' hSw
        first | (go_simp; done) | (go_simp; with_reducible rfl)
      try simp only [Act.put, List.setIfInBounds_toArray, List.set_cons_zero, List.set_cons_succ]
      refine h_take (i := 3) (d := some 30) (v := ?vt3) (by rfl) (by kernel_rfl) (by kernel_rfl) (by kernel_rfl) (fun _ _ _ h => (by cases h.1)) (by rfl) ?hyt3 hHeld ?restt3
      case hyt3 =>
        intro o ho
        simp only [List.getElem?_toArray, List.getElem?_cons_succ, List.getElem?_cons_zero, Option.some.injEq] at ho
        subst ho
        intro w' hSw
        first | (go_simp; done) | (go_simp; with_reducible rfl)
      try simp only [Act.put, List.setIfInBounds_toArray, List.set_cons_zero, List.set_cons_succ]
      refine wpAnyH_ready (rs := [1, 5]) (by kernel_rfl) (by simp) ?_
      refine AllReadyH.cons rfl (fun K hK => ?_) (AllReadyH.cons rfl (fun K hK => ?_) AllReadyH.nil)
      · go_simp
        refine (hTh _).mono ?_
        rintro x wq ⟨rfl, hbq⟩
        have hq := below_after_of hHeld hbq
        try (have G := G.below hbq)
        try clear hal
        refine hK.out _ _ ?_ (fun hHeld => ?_)
        · exact hq
        clear hK K
        try simp only [Act.put, List.setIfInBounds_toArray, List.set_cons_zero, List.set_cons_succ]
        refine wpAnyH_ready (rs := [4, 5]) (by kernel_rfl) (by simp) ?_
        refine AllReadyH.cons rfl (fun K hK => ?_) (AllReadyH.cons rfl (fun K hK => ?_) AllReadyH.nil)
        · go_simp
          refine (hI _ _ _ (HI4.out _ hHeld).1 (HI4.out _ hHeld).2).mono ?_
          rintro x wq ⟨rfl, hbq⟩
          have hq := below_after_of hHeld hbq
          try (have G := G.below hbq)
          try clear hal
          refine hK.out _ _ ?_ (fun hHeld => ?_)
          · exact hq
          clear hK K
          try simp only [Act.put, List.setIfInBounds_toArray, List.set_cons_zero, List.set_cons_succ]
          refine wpAnyH_ready (rs := [5]) (by kernel_rfl) (by simp) ?_
          refine AllReadyH.cons rfl (fun K hK => ?_) AllReadyH.nil
          · go_simp
            first | (have G := AnB.new wq 0 0 false ⟨#[]⟩ 0 0 0; have hgg := hq.size; have hal := hq) | (have G := (AnB.new W4 0 0 false ⟨#[]⟩ 0 0 0).drew; have hgg := Nat.le_refl W4.heap.size)
            try (have P1 := P1.below (one_new (.cells #[.int .i64 0, .int .i64 0, .bool false, .string ⟨#[]⟩, .int .i64 0, .int .i64 0, .int .i64 0] 41)))
            try (have P1' := P1'.below (one_new (.cells #[.int .i64 0, .int .i64 0, .bool false, .string ⟨#[]⟩, .int .i64 0, .int .i64 0, .int .i64 0] 41)))
            refine hK.out _ _ ?_ (fun hHeld => ?_)
            · exact below_after_of hHeld (one_new _)
            clear hK K
            try simp only [Act.put, List.setIfInBounds_toArray, List.set_cons_zero, List.set_cons_succ]
            have ⟨v0, v1, v2, v3, v4, v5, v6, u0, u1, u2, u3, u4, u5, u6⟩ := seven_cells G.h
            have hgl := G.lt
            refine wpAnyH_ready (rs := [6]) (by kernel_rfl) (by simp) ?_
            refine AllReadyH.cons rfl (fun K hK => ?_) AllReadyH.nil
            go_simp
            refine hK.out _ _ ?_ (fun hHeld => ?_)
            · first | exact below_after_of hal (one_new _) | exact below_set7a hHeld _ hgg _ _ _ _ _ _ _
            clear hK K
            try simp only [Act.put, List.setIfInBounds_toArray, List.set_cons_zero, List.set_cons_succ]
            refine wpAnyH_done (by kernel_rfl) ?_ _
            refine ⟨rfl, _, by with_reducible rfl, ?_, hgg, hHeld⟩
            first | (have hx := hal; exact AnB.new _ _ _ _ _ _ _ _) | exact G.set _ _ _ _ _ _ _
        · go_simp
          first | (have G := AnB.new wq 0 0 false ⟨#[]⟩ 0 0 0; have hgg := hq.size; have hal := hq) | (have G := (AnB.new W4 0 0 false ⟨#[]⟩ 0 0 0).drew; have hgg := Nat.le_refl W4.heap.size)
          try (have P1 := P1.below (one_new (.cells #[.int .i64 0, .int .i64 0, .bool false, .string ⟨#[]⟩, .int .i64 0, .int .i64 0, .int .i64 0] 41)))
          try (have P1' := P1'.below (one_new (.cells #[.int .i64 0, .int .i64 0, .bool false, .string ⟨#[]⟩, .int .i64 0, .int .i64 0, .int .i64 0] 41)))
          refine hK.out _ _ ?_ (fun hHeld => ?_)
          · exact below_after_of hHeld (one_new _)
          clear hK K
          try simp only [Act.put, List.setIfInBounds_toArray, List.set_cons_zero, List.set_cons_succ]
          refine wpAnyH_ready (rs := [4]) (by kernel_rfl) (by simp) ?_
          refine AllReadyH.cons rfl (fun K hK => ?_) AllReadyH.nil
          · go_simp
            refine (hI _ _ _ (HI4.out _ hHeld).1 (HI4.out _ hHeld).2).mono ?_
            rintro x wq ⟨rfl, hbq⟩
            have hq := below_after_of hHeld hbq
            try (have G := G.below hbq)
            try clear hal
            refine hK.out _ _ ?_ (fun hHeld => ?_)
            · exact hq
            clear hK K
            try simp only [Act.put, List.setIfInBounds_toArray, List.set_cons_zero, List.set_cons_succ]
            have ⟨v0, v1, v2, v3, v4, v5, v6, u0, u1, u2, u3, u4, u5, u6⟩ := seven_cells G.h
            have hgl := G.lt
            refine wpAnyH_ready (rs := [6]) (by kernel_rfl) (by simp) ?_
            refine AllReadyH.cons rfl (fun K hK => ?_) AllReadyH.nil
            go_simp
            refine hK.out _ _ ?_ (fun hHeld => ?_)
            · first | exact below_after_of hal (one_new _) | exact below_set7a hHeld _ hgg _ _ _ _ _ _ _
            clear hK K
            try simp only [Act.put, List.setIfInBounds_toArray, List.set_cons_zero, List.set_cons_succ]
            refine wpAnyH_done (by kernel_rfl) ?_ _
            refine ⟨rfl, _, by with_reducible rfl, ?_, hgg, hHeld⟩
            first | (have hx := hal; exact AnB.new _ _ _ _ _ _ _ _) | exact G.set _ _ _ _ _ _ _
      · go_simp
        first | (have G := AnB.new wq 0 0 false ⟨#[]⟩ 0 0 0; have hgg := hq.size; have hal := hq) | (have G := (AnB.new W4 0 0 false ⟨#[]⟩ 0 0 0).drew; have hgg := Nat.le_refl W4.heap.size)
        try (have P1 := P1.below (one_new (.cells #[.int .i64 0, .int .i64 0, .bool false, .string ⟨#[]⟩, .int .i64 0, .int .i64 0, .int .i64 0] 41)))
        try (have P1' := P1'.below (one_new (.cells #[.int .i64 0, .int .i64 0, .bool false, .string ⟨#[]⟩, .int .i64 0, .int .i64 0, .int .i64 0] 41)))
        refine hK.out _ _ ?_ (fun hHeld => ?_)
        · exact below_after_of hHeld (one_new _)
        clear hK K
        try simp only [Act.put, List.setIfInBounds_toArray, List.set_cons_zero, List.set_cons_succ]
        refine wpAnyH_ready (rs := [1]) (by kernel_rfl) (by simp) ?_
        refine AllReadyH.cons rfl (fun K hK => ?_) AllReadyH.nil
        · go_simp
          refine (hTh _).mono ?_
          rintro x wq ⟨rfl, hbq⟩
          have hq := below_after_of hHeld hbq
          try (have G := G.below hbq)
          try clear hal
          refine hK.out _ _ ?_ (fun hHeld => ?_)
          · exact hq
          clear hK K
          try simp only [Act.put, List.setIfInBounds_toArray, List.set_cons_zero, List.set_cons_succ]
          refine wpAnyH_ready (rs := [4]) (by kernel_rfl) (by simp) ?_
          refine AllReadyH.cons rfl (fun K hK => ?_) AllReadyH.nil
          · go_simp
            refine (hI _ _ _ (HI4.out _ hHeld).1 (HI4.out _ hHeld).2).mono ?_
            rintro x wq ⟨rfl, hbq⟩
            have hq := below_after_of hHeld hbq
            try (have G := G.below hbq)
            try clear hal
            refine hK.out _ _ ?_ (fun hHeld => ?_)
            · exact hq
            clear hK K
            try simp only [Act.put, List.setIfInBounds_toArray, List.set_cons_zero, List.set_cons_succ]
            have ⟨v0, v1, v2, v3, v4, v5, v6, u0, u1, u2, u3, u4, u5, u6⟩ := seven_cells G.h
            have hgl := G.lt
            refine wpAnyH_ready (rs := [6]) (by kernel_rfl) (by simp) ?_
            refine AllReadyH.cons rfl (fun K hK => ?_) AllReadyH.nil
            go_simp
            refine hK.out _ _ ?_ (fun hHeld => ?_)
            · first | exact below_after_of hal (one_new _) | exact below_set7a hHeld _ hgg _ _ _ _ _ _ _
            clear hK K
            try simp only [Act.put, List.setIfInBounds_toArray, List.set_cons_zero, List.set_cons_succ]
            refine wpAnyH_done (by kernel_rfl) ?_ _
            refine ⟨rfl, _, by with_reducible rfl, ?_, hgg, hHeld⟩
            first | (have hx := hal; exact AnB.new _ _ _ _ _ _ _ _) | exact G.set _ _ _ _ _ _ _
    rintro _ _ W5 ⟨rfl, g5, rfl, P5, hg5, hb5⟩
    dsimp only
    have hgl5 := P5.lt
    have P4 := P4.below hb5
    obtain ⟨v0, v1, v2, v3, v4, v5, v6, -⟩ := seven_cells P4.h
    obtain ⟨u0, u1, u2, u3, u4, u5, u6, -⟩ := seven_cells P5.h
    have hB5 := below_after_of hB4 hb5
    have HA5 : Hid (∀ w', Below W5.heap.size W5 w' → w'.cell? ⟨w.heap.size, 0, none⟩ = some (.int .i64 he) ∧ w'.cell? ⟨w.heap.size, 1, none⟩ = some (.int .i64 hp) ∧ w'.cell? ⟨w.heap.size, 2, none⟩ = some (.int .i64 ho) ∧ w'.cell? ⟨w.heap.size, 3, none⟩ = some (.int .i64 hn) ∧ w'.cell? ⟨w.heap.size, 4, none⟩ = some (.int .i64 hv) ∧ w'.cell? ⟨w.heap.size + 1, 0, none⟩ = some (.int .i64 e) ∧ w'.cell? ⟨w.heap.size + 1, 1, none⟩ = some (.bool hl) ∧ w'.cell? ⟨w.heap.size + 1, 2, none⟩ = some (.string l) ∧ w'.cell? ⟨w.heap.size + 1, 3, none⟩ = some (.int .i64 v) ∧ w'.cell? ⟨w.heap.size + 1, 4, none⟩ = some (.int .i64 o) ∧ w'.cell? ⟨w.heap.size + 1, 5, none⟩ = some (.int .i64 p) ∧ w'.cell? ⟨w.heap.size + 1, 6, none⟩ = some (.bool so) ∧ w'.cell? ⟨w.heap.size + 1, 7, none⟩ = some (.bool st) ∧ w'.cell? ⟨w.heap.size + 1, 8, none⟩ = some (.int .i64 sv) ∧ w'.cell? ⟨w.heap.size + 1, 9, none⟩ = some (.slice a pn c) ∧ w'.cell? ⟨w.heap.size + 1, 10, none⟩ = some (.bool sx) ∧ w'.cell? ⟨w.heap.size + 1, 11, none⟩ = some (.int .i64 sk) ∧ w'.cell? ⟨w.heap.size + 1, 12, none⟩ = some (.int .i64 sy) ∧ w'.cell? ⟨w.heap.size + 1, 13, none⟩ = some (.slice a' fn c')) := fun w' hb => HA4.out _ (below_after_of hb5 hb)
    have HR5 : Hid (∀ w', Below W5.heap.size W5 w' → w'.cell? ⟨w4.heap.size, 0, none⟩ = some (.int .i64 e) ∧ w'.cell? ⟨w4.heap.size, 1, none⟩ = some (.bool hl) ∧ w'.cell? ⟨w4.heap.size, 2, none⟩ = some (.string l) ∧ w'.cell? ⟨w4.heap.size, 3, none⟩ = some (.int .i64 v) ∧ w'.cell? ⟨w4.heap.size, 4, none⟩ = some (.int .i64 o) ∧ w'.cell? ⟨w4.heap.size, 5, none⟩ = some (.int .i64 p) ∧ w'.cell? ⟨w4.heap.size, 6, none⟩ = some (.bool so) ∧ w'.cell? ⟨w4.heap.size, 7, none⟩ = some (.bool st) ∧ w'.cell? ⟨w4.heap.size, 8, none⟩ = some (.int .i64 sv) ∧ w'.cell? ⟨w4.heap.size, 9, none⟩ = some (.slice a4 pn c4) ∧ w'.cell? ⟨w4.heap.size, 10, none⟩ = some (.bool sx) ∧ w'.cell? ⟨w4.heap.size, 11, none⟩ = some (.int .i64 sk) ∧ w'.cell? ⟨w4.heap.size, 12, none⟩ = some (.int .i64 sy) ∧ w'.cell? ⟨w4.heap.size, 13, none⟩ = some (.slice a4' fn c4')) := fun w' hb => (HR4.out _ (below_after_of hb5 hb)).cells
    have HI5 : Hid (∀ w', Below W5.heap.size W5 w' → Ints .i64 w' (.slice a4 pn c4) ps ∧ Prs w' (.slice a4' fn c4') f) := fun w' hb => HI4.out _ (below_after_of hb5 hb)
    clear q0 q1 q2 q3 q4 q5 q6 q7 q8 q9 q10 q11 q12 q13 q14 q15 q16 q17 q18 r0 r1 r2 r3 r4 r5 r6 r7 r8 r9 r10 r11 r12 r13 HA4 HR4 HI4 hI hB4 hb5 P4 P5
    go_wp2_with fail
    refine (eqAnswerResult_same c0 k0 f0 x0 x1 x2 x3 _).mono ?_
    rintro x w6 ⟨rfl, hb6⟩
    have hbr := hb6
    obtain ⟨e0, e1, e2, e3, e4, e5, e6, e7, e8, e9, e10, e11, e12, e13, e14, e15, e16, e17, e18⟩ := HA5.out _ hbr
    have HC6 : Hid (∀ w', Below W5.heap.size W5 w' → (w'.cell? ⟨w.heap.size, 0, none⟩ = some (.int .i64 he) ∧ w'.cell? ⟨w.heap.size, 1, none⟩ = some (.int .i64 hp) ∧ w'.cell? ⟨w.heap.size, 2, none⟩ = some (.int .i64 ho) ∧ w'.cell? ⟨w.heap.size, 3, none⟩ = some (.int .i64 hn) ∧ w'.cell? ⟨w.heap.size, 4, none⟩ = some (.int .i64 hv) ∧ w'.cell? ⟨w.heap.size + 1, 0, none⟩ = some (.int .i64 e) ∧ w'.cell? ⟨w.heap.size + 1, 1, none⟩ = some (.bool hl) ∧ w'.cell? ⟨w.heap.size + 1, 2, none⟩ = some (.string l) ∧ w'.cell? ⟨w.heap.size + 1, 3, none⟩ = some (.int .i64 v) ∧ w'.cell? ⟨w.heap.size + 1, 4, none⟩ = some (.int .i64 o) ∧ w'.cell? ⟨w.heap.size + 1, 5, none⟩ = some (.int .i64 p) ∧ w'.cell? ⟨w.heap.size + 1, 6, none⟩ = some (.bool so) ∧ w'.cell? ⟨w.heap.size + 1, 7, none⟩ = some (.bool st) ∧ w'.cell? ⟨w.heap.size + 1, 8, none⟩ = some (.int .i64 sv) ∧ w'.cell? ⟨w.heap.size + 1, 9, none⟩ = some (.slice a pn c) ∧ w'.cell? ⟨w.heap.size + 1, 10, none⟩ = some (.bool sx) ∧ w'.cell? ⟨w.heap.size + 1, 11, none⟩ = some (.int .i64 sk) ∧ w'.cell? ⟨w.heap.size + 1, 12, none⟩ = some (.int .i64 sy) ∧ w'.cell? ⟨w.heap.size + 1, 13, none⟩ = some (.slice a' fn c')) ∧ (w'.cell? ⟨w4.heap.size, 0, none⟩ = some (.int .i64 e) ∧ w'.cell? ⟨w4.heap.size, 1, none⟩ = some (.bool hl) ∧ w'.cell? ⟨w4.heap.size, 2, none⟩ = some (.string l) ∧ w'.cell? ⟨w4.heap.size, 3, none⟩ = some (.int .i64 v) ∧ w'.cell? ⟨w4.heap.size, 4, none⟩ = some (.int .i64 o) ∧ w'.cell? ⟨w4.heap.size, 5, none⟩ = some (.int .i64 p) ∧ w'.cell? ⟨w4.heap.size, 6, none⟩ = some (.bool so) ∧ w'.cell? ⟨w4.heap.size, 7, none⟩ = some (.bool st) ∧ w'.cell? ⟨w4.heap.size, 8, none⟩ = some (.int .i64 sv) ∧ w'.cell? ⟨w4.heap.size, 9, none⟩ = some (.slice a4 pn c4) ∧ w'.cell? ⟨w4.heap.size, 10, none⟩ = some (.bool sx) ∧ w'.cell? ⟨w4.heap.size, 11, none⟩ = some (.int .i64 sk) ∧ w'.cell? ⟨w4.heap.size, 12, none⟩ = some (.int .i64 sy) ∧ w'.cell? ⟨w4.heap.size, 13, none⟩ = some (.slice a4' fn c4'))) := fun w' hb => ⟨HA5.out _ hb, HR5.out _ hb⟩
    clear v0 v1 v2 v3 v4 v5 v6 u0 u1 u2 u3 u4 u5 u6 hb6 e0 e1 e2 e3 e4 e5 e6 e7 e8 e9 e10 e11 e12 e13 e14 e15 e16 e17 e18
    have HC0 := HC6.out _ hbr
    go_wp2_with fail
    go_region_held3 (fun w' => (w'.cell? ⟨w.heap.size, 0, none⟩ = some (.int .i64 he) ∧ w'.cell? ⟨w.heap.size, 1, none⟩ = some (.int .i64 hp) ∧ w'.cell? ⟨w.heap.size, 2, none⟩ = some (.int .i64 ho) ∧ w'.cell? ⟨w.heap.size, 3, none⟩ = some (.int .i64 hn) ∧ w'.cell? ⟨w.heap.size, 4, none⟩ = some (.int .i64 hv) ∧ w'.cell? ⟨w.heap.size + 1, 0, none⟩ = some (.int .i64 e) ∧ w'.cell? ⟨w.heap.size + 1, 1, none⟩ = some (.bool hl) ∧ w'.cell? ⟨w.heap.size + 1, 2, none⟩ = some (.string l) ∧ w'.cell? ⟨w.heap.size + 1, 3, none⟩ = some (.int .i64 v) ∧ w'.cell? ⟨w.heap.size + 1, 4, none⟩ = some (.int .i64 o) ∧ w'.cell? ⟨w.heap.size + 1, 5, none⟩ = some (.int .i64 p) ∧ w'.cell? ⟨w.heap.size + 1, 6, none⟩ = some (.bool so) ∧ w'.cell? ⟨w.heap.size + 1, 7, none⟩ = some (.bool st) ∧ w'.cell? ⟨w.heap.size + 1, 8, none⟩ = some (.int .i64 sv) ∧ w'.cell? ⟨w.heap.size + 1, 9, none⟩ = some (.slice a pn c) ∧ w'.cell? ⟨w.heap.size + 1, 10, none⟩ = some (.bool sx) ∧ w'.cell? ⟨w.heap.size + 1, 11, none⟩ = some (.int .i64 sk) ∧ w'.cell? ⟨w.heap.size + 1, 12, none⟩ = some (.int .i64 sy) ∧ w'.cell? ⟨w.heap.size + 1, 13, none⟩ = some (.slice a' fn c')) ∧ (w'.cell? ⟨w4.heap.size, 0, none⟩ = some (.int .i64 e) ∧ w'.cell? ⟨w4.heap.size, 1, none⟩ = some (.bool hl) ∧ w'.cell? ⟨w4.heap.size, 2, none⟩ = some (.string l) ∧ w'.cell? ⟨w4.heap.size, 3, none⟩ = some (.int .i64 v) ∧ w'.cell? ⟨w4.heap.size, 4, none⟩ = some (.int .i64 o) ∧ w'.cell? ⟨w4.heap.size, 5, none⟩ = some (.int .i64 p) ∧ w'.cell? ⟨w4.heap.size, 6, none⟩ = some (.bool so) ∧ w'.cell? ⟨w4.heap.size, 7, none⟩ = some (.bool st) ∧ w'.cell? ⟨w4.heap.size, 8, none⟩ = some (.int .i64 sv) ∧ w'.cell? ⟨w4.heap.size, 9, none⟩ = some (.slice a4 pn c4) ∧ w'.cell? ⟨w4.heap.size, 10, none⟩ = some (.bool sx) ∧ w'.cell? ⟨w4.heap.size, 11, none⟩ = some (.int .i64 sk) ∧ w'.cell? ⟨w4.heap.size, 12, none⟩ = some (.int .i64 sy) ∧ w'.cell? ⟨w4.heap.size, 13, none⟩ = some (.slice a4' fn c4')))
      (first | exact HC0 | exact HC6.out _ hbr | exact HC6.out _ hbr.drew)
      (first
        | (go_at_call 10; refine (hT _ (below_after_of hB5 (by first | exact hbr | exact hbr.drew))).mono ?_; rintro x w7 ⟨a7, c7, a7', c7', rfl, hb7, o7, o7'⟩; have hbr : Below W5.heap.size W5 w7 := (by first | exact below_after_of hbr hb7 | exact below_after_of hbr.drew hb7))
        | (go_at_call 13; refine (hE _ _ _ _ _ (HI5.out _ hbr).1 (own_ints_se HPN.out o7) (HI5.out _ hbr).2 (own_prs_se HFN.out o7')).mono ?_; rintro x w8 ⟨rfl, hb8⟩; have hbr : Below W5.heap.size W5 w8 := (by first | exact below_after_of hbr hb8 | exact below_after_of hbr.drew hb8)))
    have hB8 := below_after_of hB5 hbr
    clear HC6 HC0 HA5 HR5 HI5 hT hE hTh
    go_wp2
    go_ret
    exact ⟨rfl, hB8⟩
  · rw [if_neg h] at hZ
    generalize ps.length = pn at *
    generalize f.length = fn at *
    clear hp0 hv0
    go_enter Tryz.func3, Tryz.ntmps3
    go_wp2_with fail
    refine (hZ _).mono ?_
    rintro x w1 ⟨rfl, hb1⟩
    have hB := below_after (below_after hb1)
    clear hZ hb1
    go_wp2
    go_ret
    exact ⟨rfl, hB⟩
end U
end Go.Proofs.YtdbbmclobmigdaaGreat
