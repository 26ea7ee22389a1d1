/- A reply that a law is handed: how great it is, and the reply that the functions are handed; replies held against one another. -/
import Derived.Test.YtdbbmclobmigdaaGRpM
import Derived.Test.YtdbbmclobmigdaaGJrL
import Derived.Test.YtdbbmclobmigdaaGSdT
import Derived.Test.YtdbbmclobmigdaaGRecE
namespace Go.Proofs.Ytdbbmclobmigdaa
open Go.RowKit
namespace U
/-- Fourteen cells. -/
theorem fourteen {w : World} {g : Nat} {v0 v1 v2 v3 v4 v5 v6 v7 v8 v9 v10 v11 v12 v13 : Value} {ty : TypeId} (h : w.heap[g]? = some (.cells #[v0, v1, v2, v3, v4, v5, v6, v7, v8, v9, v10, v11, v12, v13] ty)) : (w.cell? ⟨g, 0, none⟩ = some v0 ∧ w.cell? ⟨g, 1, none⟩ = some v1 ∧ w.cell? ⟨g, 2, none⟩ = some v2 ∧ w.cell? ⟨g, 3, none⟩ = some v3 ∧ w.cell? ⟨g, 4, none⟩ = some v4 ∧ w.cell? ⟨g, 5, none⟩ = some v5 ∧ w.cell? ⟨g, 6, none⟩ = some v6 ∧ w.cell? ⟨g, 7, none⟩ = some v7 ∧ w.cell? ⟨g, 8, none⟩ = some v8 ∧ w.cell? ⟨g, 9, none⟩ = some v9 ∧ w.cell? ⟨g, 10, none⟩ = some v10 ∧ w.cell? ⟨g, 11, none⟩ = some v11 ∧ w.cell? ⟨g, 12, none⟩ = some v12 ∧ w.cell? ⟨g, 13, none⟩ = some v13) ∧
    (w.frozen? ⟨g, 0, none⟩ = false ∧ w.frozen? ⟨g, 1, none⟩ = false ∧ w.frozen? ⟨g, 2, none⟩ = false ∧ w.frozen? ⟨g, 3, none⟩ = false ∧ w.frozen? ⟨g, 4, none⟩ = false ∧ w.frozen? ⟨g, 5, none⟩ = false ∧ w.frozen? ⟨g, 6, none⟩ = false ∧ w.frozen? ⟨g, 7, none⟩ = false ∧ w.frozen? ⟨g, 8, none⟩ = false ∧ w.frozen? ⟨g, 9, none⟩ = false ∧ w.frozen? ⟨g, 10, none⟩ = false ∧ w.frozen? ⟨g, 11, none⟩ = false ∧ w.frozen? ⟨g, 12, none⟩ = false ∧ w.frozen? ⟨g, 13, none⟩ = false) := by
  refine ⟨⟨?_, ?_, ?_, ?_, ?_, ?_, ?_, ?_, ?_, ?_, ?_, ?_, ?_, ?_⟩, ?_, ?_, ?_, ?_, ?_, ?_, ?_, ?_, ?_, ?_, ?_, ?_, ?_, ?_⟩ <;> (first | (unfold World.cell?; rw [h]; rfl) | (unfold World.frozen?; rw [h]; rfl))
set_option maxRecDepth 100000 in
set_option maxHeartbeats 4000000 in
theorem szReply_any (e : Int) (hl : Bool) (l : ByteArray) (v o p : Int) (so st : Bool) (sv : Int) (a : Option Addr) (pn c : Nat) (sx : Bool) (sk sy : Int) (a' : Option Addr) (fn c' : Nat) (w : World) (hs : l.size ≤ maxLen) (hp : pn ≤ maxLen) (hf : fn ≤ maxLen) :
    Calls Try.prog 4 #[.agg #[.int .i64 e, .bool hl, .string l, .int .i64 v, .int .i64 o, .int .i64 p, .bool so, .bool st, .int .i64 sv, .slice a pn c, .bool sx, .int .i64 sk, .int .i64 sy, .slice a' fn c'], .int .i64 1048576] w fun x w' => x = .returned (.int .i64 (if l.size + pn + fn ≤ 1048576 then (1048576 - l.size - pn - fn : Int) else -1)) ∧ Below w.heap.size w w' := by
  have hR := fun w => szRecord_any l v o p w hs
  unfold recV at hR
  obtain ⟨⟨c0, c1, c2, c3, c4, c5, c6, c7, c8, c9, c10, c11, c12, c13⟩, -⟩ := fourteen (heap_alloc_new w (.cells #[.int .i64 e, .bool hl, .string l, .int .i64 v, .int .i64 o, .int .i64 p, .bool so, .bool st, .int .i64 sv, .slice a pn c, .bool sx, .int .i64 sk, .int .i64 sy, .slice a' fn c'] 33))
  have hB0 := one_new (w := w) (.cells #[.int .i64 e, .bool hl, .string l, .int .i64 v, .int .i64 o, .int .i64 p, .bool so, .bool st, .int .i64 sv, .slice a pn c, .bool sx, .int .i64 sk, .int .i64 sy, .slice a' fn c'] 33)
  have HF : Hid (∀ w', Below (w.alloc (.cells #[.int .i64 e, .bool hl, .string l, .int .i64 v, .int .i64 o, .int .i64 p, .bool so, .bool st, .int .i64 sv, .slice a pn c, .bool sx, .int .i64 sk, .int .i64 sy, .slice a' fn c'] 33)).heap.size (w.alloc (.cells #[.int .i64 e, .bool hl, .string l, .int .i64 v, .int .i64 o, .int .i64 p, .bool so, .bool st, .int .i64 sv, .slice a pn c, .bool sx, .int .i64 sk, .int .i64 sy, .slice a' fn c'] 33)) w' → w'.heap[w.heap.size]? = some (.cells #[.int .i64 e, .bool hl, .string l, .int .i64 v, .int .i64 o, .int .i64 p, .bool so, .bool st, .int .i64 sv, .slice a pn c, .bool sx, .int .i64 sk, .int .i64 sy, .slice a' fn c'] 33)) := fun w' hb => (hb.block w.heap.size (by simp)).trans (heap_alloc_new w _)
  by_cases h1 : l.size ≤ 1048576
  · rw [if_pos h1] at hR
    have hS := fun w => szSaid_gen (1048576 - l.size) (by omega) so st sv a pn c sx sk sy a' fn c' w hp hf
    rw [show ((1048576 - l.size : Nat) : Int) = (1048576 - l.size : Int) by omega] at hS
    have hz : ¬ ((1048576 - l.size : Int) < 0) := by omega
    by_cases h2 : pn + fn ≤ 1048576 - l.size
    · rw [if_pos h2] at hS
      rw [if_pos (by omega)]
      have hz2 : ¬ ((1048576 - l.size - pn - fn : Int) < 0) := by omega
      generalize (1048576 - l.size - pn - fn : Int) = q2 at *
      generalize (1048576 - l.size : Int) = q1 at *
      go_enter Try.func4, Try.ntmps4
      go_wp2_with fail
      refine (hR _).mono ?_
      rintro x w1 ⟨rfl, hb1⟩
      have hB1 := below_after_of hB0 hb1
      obtain ⟨⟨c0, c1, c2, c3, c4, c5, c6, c7, c8, c9, c10, c11, c12, c13⟩, -⟩ := fourteen (HF.out _ hb1)
      clear hR hb1
      go_wp2_with fail
      refine (hS _).mono ?_
      rintro x w2 ⟨rfl, hb2⟩
      have hB2 := below_after_of hB1 hb2
      clear hS hb2
      go_wp2
      go_ret
      exact ⟨rfl, hB2⟩
    · rw [if_neg h2] at hS
      rw [if_neg (by omega)]
      generalize (1048576 - l.size : Int) = q1 at *
      go_enter Try.func4, Try.ntmps4
      go_wp2_with fail
      refine (hR _).mono ?_
      rintro x w1 ⟨rfl, hb1⟩
      have hB1 := below_after_of hB0 hb1
      obtain ⟨⟨c0, c1, c2, c3, c4, c5, c6, c7, c8, c9, c10, c11, c12, c13⟩, -⟩ := fourteen (HF.out _ hb1)
      clear hR hb1
      go_wp2_with fail
      refine (hS _).mono ?_
      rintro x w2 ⟨rfl, hb2⟩
      have hB2 := below_after_of hB1 hb2
      clear hS hb2
      go_wp2
      go_ret
      exact ⟨rfl, hB2⟩
  · rw [if_neg h1] at hR
    rw [if_neg (by omega)]
    go_enter Try.func4, Try.ntmps4
    go_wp2_with fail
    refine (hR _).mono ?_
    rintro x w1 ⟨rfl, hb1⟩
    have hB1 := below_after_of hB0 hb1
    clear hR hb1
    go_wp2
    go_ret
    exact ⟨rfl, hB1⟩
theorem put_said8 {w : World} {g : Nat} {x0 x1 x2 x3 x4 x5 x6 x7 x8 x9 x10 x11 x12 x13 : Value} {t : TypeId} (h : w.heap[g]? = some (.cells #[x0, x1, x2, x3, x4, x5, x6, x7, x8, x9, x10, x11, x12, x13] t)) (y6 y7 y8 y9 y10 y11 y12 y13 : Value) : ((((((((w.setCell ⟨g, 6, none⟩ y6).setCell ⟨g, 7, none⟩ y7).setCell ⟨g, 8, none⟩ y8).setCell ⟨g, 9, none⟩ y9).setCell ⟨g, 10, none⟩ y10).setCell ⟨g, 11, none⟩ y11).setCell ⟨g, 12, none⟩ y12).setCell ⟨g, 13, none⟩ y13).heap[g]? = some (.cells #[x0, x1, x2, x3, x4, x5, y6, y7, y8, y9, y10, y11, y12, y13] t) := by
  have h6 : (w.setCell ⟨g, 6, none⟩ y6).heap[g]? = some (.cells #[x0, x1, x2, x3, x4, x5, y6, x7, x8, x9, x10, x11, x12, x13] t) := heap_setCell_same _ _ 6 _ _ _ h
  have h7 : ((w.setCell ⟨g, 6, none⟩ y6).setCell ⟨g, 7, none⟩ y7).heap[g]? = some (.cells #[x0, x1, x2, x3, x4, x5, y6, y7, x8, x9, x10, x11, x12, x13] t) := heap_setCell_same _ _ 7 _ _ _ h6
  have h8 : (((w.setCell ⟨g, 6, none⟩ y6).setCell ⟨g, 7, none⟩ y7).setCell ⟨g, 8, none⟩ y8).heap[g]? = some (.cells #[x0, x1, x2, x3, x4, x5, y6, y7, y8, x9, x10, x11, x12, x13] t) := heap_setCell_same _ _ 8 _ _ _ h7
  have h9 : ((((w.setCell ⟨g, 6, none⟩ y6).setCell ⟨g, 7, none⟩ y7).setCell ⟨g, 8, none⟩ y8).setCell ⟨g, 9, none⟩ y9).heap[g]? = some (.cells #[x0, x1, x2, x3, x4, x5, y6, y7, y8, y9, x10, x11, x12, x13] t) := heap_setCell_same _ _ 9 _ _ _ h8
  have h10 : (((((w.setCell ⟨g, 6, none⟩ y6).setCell ⟨g, 7, none⟩ y7).setCell ⟨g, 8, none⟩ y8).setCell ⟨g, 9, none⟩ y9).setCell ⟨g, 10, none⟩ y10).heap[g]? = some (.cells #[x0, x1, x2, x3, x4, x5, y6, y7, y8, y9, y10, x11, x12, x13] t) := heap_setCell_same _ _ 10 _ _ _ h9
  have h11 : ((((((w.setCell ⟨g, 6, none⟩ y6).setCell ⟨g, 7, none⟩ y7).setCell ⟨g, 8, none⟩ y8).setCell ⟨g, 9, none⟩ y9).setCell ⟨g, 10, none⟩ y10).setCell ⟨g, 11, none⟩ y11).heap[g]? = some (.cells #[x0, x1, x2, x3, x4, x5, y6, y7, y8, y9, y10, y11, x12, x13] t) := heap_setCell_same _ _ 11 _ _ _ h10
  have h12 : (((((((w.setCell ⟨g, 6, none⟩ y6).setCell ⟨g, 7, none⟩ y7).setCell ⟨g, 8, none⟩ y8).setCell ⟨g, 9, none⟩ y9).setCell ⟨g, 10, none⟩ y10).setCell ⟨g, 11, none⟩ y11).setCell ⟨g, 12, none⟩ y12).heap[g]? = some (.cells #[x0, x1, x2, x3, x4, x5, y6, y7, y8, y9, y10, y11, y12, x13] t) := heap_setCell_same _ _ 12 _ _ _ h11
  have h13 : ((((((((w.setCell ⟨g, 6, none⟩ y6).setCell ⟨g, 7, none⟩ y7).setCell ⟨g, 8, none⟩ y8).setCell ⟨g, 9, none⟩ y9).setCell ⟨g, 10, none⟩ y10).setCell ⟨g, 11, none⟩ y11).setCell ⟨g, 12, none⟩ y12).setCell ⟨g, 13, none⟩ y13).heap[g]? = some (.cells #[x0, x1, x2, x3, x4, x5, y6, y7, y8, y9, y10, y11, y12, y13] t) := heap_setCell_same _ _ 13 _ _ _ h12
  exact h13
theorem keep_said8 {w : World} {g q : Nat} (hq : q ≠ g) (y6 y7 y8 y9 y10 y11 y12 y13 : Value) : ((((((((w.setCell ⟨g, 6, none⟩ y6).setCell ⟨g, 7, none⟩ y7).setCell ⟨g, 8, none⟩ y8).setCell ⟨g, 9, none⟩ y9).setCell ⟨g, 10, none⟩ y10).setCell ⟨g, 11, none⟩ y11).setCell ⟨g, 12, none⟩ y12).setCell ⟨g, 13, none⟩ y13).heap[q]? = w.heap[q]? := by
  rw [heap_setCell_other _ _ _ _ hq, heap_setCell_other _ _ _ _ hq, heap_setCell_other _ _ _ _ hq, heap_setCell_other _ _ _ _ hq, heap_setCell_other _ _ _ _ hq, heap_setCell_other _ _ _ _ hq, heap_setCell_other _ _ _ _ hq, heap_setCell_other _ _ _ _ hq]
set_option maxRecDepth 100000 in
set_option maxHeartbeats 4000000 in
theorem toReply_any (e : Int) (hl : Bool) (l : ByteArray) (v o p : Int) (so st : Bool) (sv : Int) (sp : Value) (ps : List Int) (sx : Bool) (sk sy : Int) (sf : Value) (f : Prl) (w : World) (hp : Ints .i64 w sp ps) (hv : Prs w sf f) (hx : ps.length ≤ 1048576) (hy : f.length ≤ 1048576) :
    Calls Try.prog 6 #[rpV e hl l v o p so st sv sp sx sk sy sf] w fun x w' => ∃ a c a' c', x = .returned (rpV e hl l v o p so st sv (.slice a ps.length c) sx sk sy (.slice a' f.length c')) ∧ Below w.heap.size w w' ∧ w'.ownsRow w.heap.size 2 1 (.slice a ps.length c) ps.length (ps.map (Value.int .i64)) ∧ w'.ownsRow w.heap.size 90 2 (.slice a' f.length c') f.length ((fl f).map (Value.int .i64)) := by
  have hR := fun w => toRecord_is l v o p w
  have hS := fun w' (hb : Below w.heap.size w w') => toSaid_any so st sv sp ps sx sk sy sf f w' (hp.below hb) (hv.below hb) hx hy
  obtain ⟨a, c, rfl⟩ := hp.shape
  obtain ⟨a', c', rfl⟩ := hv.shape
  unfold recV at hR
  unfold rpV
  generalize hpn : ps.length = pn at *
  generalize hfn : f.length = fn at *
  go_enter Try.func6, Try.ntmps6
  go_wp2_with fail
  refine (hR _).mono ?_
  rintro x w1 ⟨rfl, rfl⟩
  clear hR
  obtain ⟨V, hV⟩ : ∃ V, V = ((w.alloc (.cells #[.int .i64 e, .bool hl, .string l, .int .i64 v, .int .i64 o, .int .i64 p, .bool so, .bool st, .int .i64 sv, .slice a pn c, .bool sx, .int .i64 sk, .int .i64 sy, .slice a' fn c'] 33)).alloc (.cells #[.int .i64 0, .bool false, .string ⟨#[]⟩, .int .i64 0, .int .i64 0, .int .i64 0, .bool false, .bool false, .int .i64 0, .slice none 0 0, .bool false, .int .i64 0, .int .i64 0, .slice none 0 0] 44)).alloc (.cells #[.int .i64 e, .bool hl, .string l, .int .i64 v, .int .i64 o, .int .i64 p, .bool false, .bool false, .int .i64 0, .slice none 0 0, .bool false, .int .i64 0, .int .i64 0, .slice none 0 0] 44) := ⟨_, rfl⟩
  obtain ⟨H0, H1, H2⟩ := (by rw [hV]; exact three_lieL w _ _ _ : V.heap[w.heap.size]? = some (.cells #[.int .i64 e, .bool hl, .string l, .int .i64 v, .int .i64 o, .int .i64 p, .bool so, .bool st, .int .i64 sv, .slice a pn c, .bool sx, .int .i64 sk, .int .i64 sy, .slice a' fn c'] 33) ∧ V.heap[w.heap.size + 1]? = some (.cells #[.int .i64 0, .bool false, .string ⟨#[]⟩, .int .i64 0, .int .i64 0, .int .i64 0, .bool false, .bool false, .int .i64 0, .slice none 0 0, .bool false, .int .i64 0, .int .i64 0, .slice none 0 0] 44) ∧ V.heap[w.heap.size + 1 + 1]? = some (.cells #[.int .i64 e, .bool hl, .string l, .int .i64 v, .int .i64 o, .int .i64 p, .bool false, .bool false, .int .i64 0, .slice none 0 0, .bool false, .int .i64 0, .int .i64 0, .slice none 0 0] 44))
  have hzV : V.heap.size = w.heap.size + 1 + 1 + 1 := by rw [hV]; simp
  have hB0 : Below w.heap.size w V := by rw [hV]; exact ((one_new _).alloc (one_new _).size _).alloc ((one_new _).alloc (one_new _).size _).size _
  obtain ⟨W, hW⟩ : ∃ W, W = ((V.alloc (.cells #[.string l, .int .i64 v, .int .i64 o, .int .i64 p] 23)).alloc (.cells #[.string l, .int .i64 v, .int .i64 o, .int .i64 p] 36)).alloc (.cells #[.string l, .int .i64 v, .int .i64 o, .int .i64 p] 36) := ⟨_, rfl⟩
  have hVW : Below V.heap.size V W := by rw [hW]; exact ((one_new _).alloc (one_new _).size _).alloc ((one_new _).alloc (one_new _).size _).size _
  have HW : Hid ((((((w.alloc (.cells #[.int .i64 e, .bool hl, .string l, .int .i64 v, .int .i64 o, .int .i64 p, .bool so, .bool st, .int .i64 sv, .slice a pn c, .bool sx, .int .i64 sk, .int .i64 sy, .slice a' fn c'] 33)).alloc (.cells #[.int .i64 0, .bool false, .string ⟨#[]⟩, .int .i64 0, .int .i64 0, .int .i64 0, .bool false, .bool false, .int .i64 0, .slice none 0 0, .bool false, .int .i64 0, .int .i64 0, .slice none 0 0] 44)).alloc (.cells #[.int .i64 e, .bool hl, .string l, .int .i64 v, .int .i64 o, .int .i64 p, .bool false, .bool false, .int .i64 0, .slice none 0 0, .bool false, .int .i64 0, .int .i64 0, .slice none 0 0] 44)).alloc (.cells #[.string l, .int .i64 v, .int .i64 o, .int .i64 p] 23)).alloc (.cells #[.string l, .int .i64 v, .int .i64 o, .int .i64 p] 36)).alloc (.cells #[.string l, .int .i64 v, .int .i64 o, .int .i64 p] 36) = W) := (by rw [hW, hV] : (((((w.alloc (.cells #[.int .i64 e, .bool hl, .string l, .int .i64 v, .int .i64 o, .int .i64 p, .bool so, .bool st, .int .i64 sv, .slice a pn c, .bool sx, .int .i64 sk, .int .i64 sy, .slice a' fn c'] 33)).alloc (.cells #[.int .i64 0, .bool false, .string ⟨#[]⟩, .int .i64 0, .int .i64 0, .int .i64 0, .bool false, .bool false, .int .i64 0, .slice none 0 0, .bool false, .int .i64 0, .int .i64 0, .slice none 0 0] 44)).alloc (.cells #[.int .i64 e, .bool hl, .string l, .int .i64 v, .int .i64 o, .int .i64 p, .bool false, .bool false, .int .i64 0, .slice none 0 0, .bool false, .int .i64 0, .int .i64 0, .slice none 0 0] 44)).alloc (.cells #[.string l, .int .i64 v, .int .i64 o, .int .i64 p] 23)).alloc (.cells #[.string l, .int .i64 v, .int .i64 o, .int .i64 p] 36)).alloc (.cells #[.string l, .int .i64 v, .int .i64 o, .int .i64 p] 36) = W)
  have hB := below_after_of hB0 hVW
  have hzW := hVW.size
  have HG : Hid ((∀ w', Below W.heap.size W w' → w'.heap[w.heap.size + 1]? = some (.cells #[.int .i64 0, .bool false, .string ⟨#[]⟩, .int .i64 0, .int .i64 0, .int .i64 0, .bool false, .bool false, .int .i64 0, .slice none 0 0, .bool false, .int .i64 0, .int .i64 0, .slice none 0 0] 44) ∧ w'.heap[w.heap.size + 1 + 1]? = some (.cells #[.int .i64 e, .bool hl, .string l, .int .i64 v, .int .i64 o, .int .i64 p, .bool false, .bool false, .int .i64 0, .slice none 0 0, .bool false, .int .i64 0, .int .i64 0, .slice none 0 0] 44)) ∧ w.heap.size + 1 + 1 < W.heap.size) := ⟨fun w' hb => ⟨(hb.block (w.heap.size + 1) (by omega)).trans ((hVW.block (w.heap.size + 1) (by omega)).trans H1), (hb.block (w.heap.size + 1 + 1) (by omega)).trans ((hVW.block (w.heap.size + 1 + 1) (by omega)).trans H2)⟩, by omega⟩
  clear hW hV H0 H1 H2 hzV hB0 hVW hzW hp hv hpn hfn
  go_wp2_with fail
  rw [HW.out]
  refine (hS _ hB).mono ?_
  rintro x w1 ⟨a1, c1, a3, c3, rfl, hb1, own1, own3⟩
  obtain ⟨hGG, hlt⟩ := HG.out
  obtain ⟨g1, g2⟩ := hGG _ hb1
  have hB1 := below_after_of hB hb1
  have G1 := (keep_said8 (w := w1) (show w.heap.size + 1 ≠ w.heap.size + 1 + 1 by omega) (.bool so) (.bool st) (.int .i64 sv) (.slice a1 pn c1) (.bool sx) (.int .i64 sk) (.int .i64 sy) (.slice a3 fn c3)).trans g1
  have G2 := put_said8 g2 (.bool so) (.bool st) (.int .i64 sv) (.slice a1 pn c1) (.bool sx) (.int .i64 sk) (.int .i64 sy) (.slice a3 fn c3)
  have hst : StK w W W (.slice a1 pn c1) (.slice a3 fn c3) pn fn (ps.map (Value.int .i64)) ((fl f).map (Value.int .i64)) w1 := ⟨hB1, own1, own3⟩
  have y1 : w.heap.size ≤ w.heap.size + 1 ∧ w.heap.size + 1 < W.heap.size ∧ w.heap.size + 1 < W.heap.size := ⟨by omega, by omega, by omega⟩
  have y2 : w.heap.size ≤ w.heap.size + 1 + 1 ∧ w.heap.size + 1 + 1 < W.heap.size ∧ w.heap.size + 1 + 1 < W.heap.size := ⟨by omega, hlt, hlt⟩
  have HST := ((((((((hst.set (w.heap.size + 1 + 1) 6 (.bool so) y2).set (w.heap.size + 1 + 1) 7 (.bool st) y2).set (w.heap.size + 1 + 1) 8 (.int .i64 sv) y2).set (w.heap.size + 1 + 1) 9 (.slice a1 pn c1) y2).set (w.heap.size + 1 + 1) 10 (.bool sx) y2).set (w.heap.size + 1 + 1) 11 (.int .i64 sk) y2).set (w.heap.size + 1 + 1) 12 (.int .i64 sy) y2).set (w.heap.size + 1 + 1) 13 (.slice a3 fn c3) y2)
  obtain ⟨⟨p0, p1, p2, p3, p4, p5, p6, p7, p8, p9, p10, p11, p12, p13⟩, s0, s1, s2, s3, s4, s5, s6, s7, s8, s9, s10, s11, s12, s13⟩ := fourteen g2
  clear hst hS hB hB1 hb1 own1 own3 hGG g1 g2 y2
  rename_i K1 hK1 K0 hK0
  have HK1 : Hid (type_of% hK1) := hK1
  clear hK1
  go_wp2
  clear p0 p1 p2 p3 p4 p5 p6 p7 p8 p9 p10 p11 p12 p13 s0 s1 s2 s3 s4 s5 s6 s7 s8 s9 s10 s11 s12 s13
  obtain ⟨w2, hw2⟩ : ∃ w2, w2 = ((((((((w1.setCell ⟨w.heap.size + 1 + 1, 6, none⟩ (.bool so)).setCell ⟨w.heap.size + 1 + 1, 7, none⟩ (.bool st)).setCell ⟨w.heap.size + 1 + 1, 8, none⟩ (.int .i64 sv)).setCell ⟨w.heap.size + 1 + 1, 9, none⟩ (.slice a1 pn c1)).setCell ⟨w.heap.size + 1 + 1, 10, none⟩ (.bool sx)).setCell ⟨w.heap.size + 1 + 1, 11, none⟩ (.int .i64 sk)).setCell ⟨w.heap.size + 1 + 1, 12, none⟩ (.int .i64 sy)).setCell ⟨w.heap.size + 1 + 1, 13, none⟩ (.slice a3 fn c3)) := ⟨_, rfl⟩
  rw [← hw2] at G1 G2 HST ⊢
  have hst2 := HST
  have HST := ((((((((((((((hst2.set (w.heap.size + 1) 0 (.int .i64 e) y1).set (w.heap.size + 1) 1 (.bool hl) y1).set (w.heap.size + 1) 2 (.string l) y1).set (w.heap.size + 1) 3 (.int .i64 v) y1).set (w.heap.size + 1) 4 (.int .i64 o) y1).set (w.heap.size + 1) 5 (.int .i64 p) y1).set (w.heap.size + 1) 6 (.bool so) y1).set (w.heap.size + 1) 7 (.bool st) y1).set (w.heap.size + 1) 8 (.int .i64 sv) y1).set (w.heap.size + 1) 9 (.slice a1 pn c1) y1).set (w.heap.size + 1) 10 (.bool sx) y1).set (w.heap.size + 1) 11 (.int .i64 sk) y1).set (w.heap.size + 1) 12 (.int .i64 sy) y1).set (w.heap.size + 1) 13 (.slice a3 fn c3) y1)
  obtain ⟨⟨m0, m1, m2, m3, m4, m5, m6, m7, m8, m9, m10, m11, m12, m13⟩, n0, n1, n2, n3, n4, n5, n6, n7, n8, n9, n10, n11, n12, n13⟩ := fourteen G1
  obtain ⟨⟨p0, p1, p2, p3, p4, p5, p6, p7, p8, p9, p10, p11, p12, p13⟩, -⟩ := fourteen G2
  have hle : Hid (w.heap.size ≤ W.heap.size) := (by omega : w.heap.size ≤ W.heap.size)
  clear hw2 G1 G2 hst2 y1 hlt HG
  refine HK1.out _ _ ?_
  clear HK1
  go_wp2
  refine bodyPost_ret (v := .agg #[.int .i64 e, .bool hl, .string l, .int .i64 v, .int .i64 o, .int .i64 p, .bool so, .bool st, .int .i64 sv, .slice a1 pn c1, .bool sx, .int .i64 sk, .int .i64 sy, .slice a3 fn c3]) (by simp [results, Try.results6, go_sem, m0, m1, m2, m3, m4, m5, m6, m7, m8, m9, m10, m11, m12, m13]) rfl ⟨a1, c1, a3, c3, rfl, HST.b, own_mono HST.o1 hle.out, own_mono HST.o3 hle.out⟩
end U
end Go.Proofs.Ytdbbmclobmigdaa
