/- Replies held against one another. -/
import Derived.Test.YtdbbmclobmigdaaGRpL
namespace Go.Proofs.Ytdbbmclobmigdaa
open Go.RowKit
namespace U
set_option maxRecDepth 100000 in
set_option maxHeartbeats 4000000 in
theorem eqReply_same (e : Int) (hl : Bool) (l : ByteArray) (v o p : Int) (so st : Bool) (sv : Int) (sp sp' : Value) (ps : List Int) (sx : Bool) (sk sy : Int) (sf sf' : Value) (f : Prl) (w : World) (hp : Ints .i64 w sp ps) (hp' : Ints .i64 w sp' ps) (hv : Prs w sf f) (hv' : Prs w sf' f) (hx : ps.length ≤ 1099511627776) (hy : f.length ≤ 1099511627776) :
    Calls Try.prog 8 #[rpV e hl l v o p so st sv sp sx sk sy sf, rpV e hl l v o p so st sv sp' sx sk sy sf'] w fun x w' => x = .returned (.bool true) ∧ Below w.heap.size w w' := by
  have hR := fun w => eqRecord_same l v o p w
  have hS := fun w' (h : Below w.heap.size w w') => eqSaid_same so st sv sp sp' ps sx sk sy sf sf' f w' (hp.below h) (hp'.below h) (hv.below h) (hv'.below h) hx hy
  obtain ⟨a, c, rfl⟩ := hp.shape
  obtain ⟨a1, c1, rfl⟩ := hp'.shape
  obtain ⟨a2, c2, rfl⟩ := hv.shape
  obtain ⟨a3, c3, rfl⟩ := hv'.shape
  unfold recV at hR
  unfold rpV
  generalize ps.length = pn at *
  generalize f.length = fn at *
  clear hp hp' hv hv'
  obtain ⟨W, hW⟩ : ∃ W, W = (w.alloc (.cells #[.int .i64 e, .bool hl, .string l, .int .i64 v, .int .i64 o, .int .i64 p, .bool so, .bool st, .int .i64 sv, .slice a pn c, .bool sx, .int .i64 sk, .int .i64 sy, .slice a2 fn c2] 44)).alloc (.cells #[.int .i64 e, .bool hl, .string l, .int .i64 v, .int .i64 o, .int .i64 p, .bool so, .bool st, .int .i64 sv, .slice a1 pn c1, .bool sx, .int .i64 sk, .int .i64 sy, .slice a3 fn c3] 44) := ⟨_, rfl⟩
  have HW : Hid ((w.alloc (.cells #[.int .i64 e, .bool hl, .string l, .int .i64 v, .int .i64 o, .int .i64 p, .bool so, .bool st, .int .i64 sv, .slice a pn c, .bool sx, .int .i64 sk, .int .i64 sy, .slice a2 fn c2] 44)).alloc (.cells #[.int .i64 e, .bool hl, .string l, .int .i64 v, .int .i64 o, .int .i64 p, .bool so, .bool st, .int .i64 sv, .slice a1 pn c1, .bool sx, .int .i64 sk, .int .i64 sy, .slice a3 fn c3] 44) = W) := hW.symm
  have hB : Below w.heap.size w W := by rw [hW]; exact two_new _ _
  have H0 : W.heap[w.heap.size]? = some (.cells #[.int .i64 e, .bool hl, .string l, .int .i64 v, .int .i64 o, .int .i64 p, .bool so, .bool st, .int .i64 sv, .slice a pn c, .bool sx, .int .i64 sk, .int .i64 sy, .slice a2 fn c2] 44) := by
    rw [hW]; exact ((one_new _).block w.heap.size (by simp)).trans (heap_alloc_new w _)
  have H1 : W.heap[w.heap.size + 1]? = some (.cells #[.int .i64 e, .bool hl, .string l, .int .i64 v, .int .i64 o, .int .i64 p, .bool so, .bool st, .int .i64 sv, .slice a1 pn c1, .bool sx, .int .i64 sk, .int .i64 sy, .slice a3 fn c3] 44) := by
    have h := heap_alloc_new (w.alloc (.cells #[.int .i64 e, .bool hl, .string l, .int .i64 v, .int .i64 o, .int .i64 p, .bool so, .bool st, .int .i64 sv, .slice a pn c, .bool sx, .int .i64 sk, .int .i64 sy, .slice a2 fn c2] 44)) (.cells #[.int .i64 e, .bool hl, .string l, .int .i64 v, .int .i64 o, .int .i64 p, .bool so, .bool st, .int .i64 sv, .slice a1 pn c1, .bool sx, .int .i64 sk, .int .i64 sy, .slice a3 fn c3] 44)
    rw [World.size_alloc] at h
    rw [hW]; exact h
  have hl0 := (Array.getElem?_eq_some_iff.1 H0).1
  have hl1 := (Array.getElem?_eq_some_iff.1 H1).1
  obtain ⟨⟨d0, d1, d2, d3, d4, d5, d6, d7, d8, d9, d10, d11, d12, d13⟩, -⟩ := fourteen H0
  obtain ⟨⟨q0, q1, q2, q3, q4, q5, q6, q7, q8, q9, q10, q11, q12, q13⟩, -⟩ := fourteen H1
  have hne : (e != e) = false := by simp
  have hno1 : (hl != hl) = false := by cases hl <;> rfl
  clear hW
  go_enter Try.func8, Try.ntmps8
  go_wp2_with fail
  rw [HW.out]
  refine (hR _).mono ?_
  rintro x w1 ⟨rfl, hb1⟩
  have hB1 := below_after_of hB hb1
  obtain ⟨⟨d0, d1, d2, d3, d4, d5, d6, d7, d8, d9, d10, d11, d12, d13⟩, -⟩ := fourteen ((hb1.block _ hl0).trans H0)
  obtain ⟨⟨q0, q1, q2, q3, q4, q5, q6, q7, q8, q9, q10, q11, q12, q13⟩, -⟩ := fourteen ((hb1.block _ hl1).trans H1)
  clear hR hb1 H0 H1
  go_wp2_with fail
  refine (hS _ hB1).mono ?_
  rintro x w2 ⟨rfl, hb2⟩
  have hB2 := below_after_of hB1 hb2
  clear hS hb2
  go_wp2
  go_ret
  exact ⟨rfl, hB2⟩
end U
end Go.Proofs.Ytdbbmclobmigdaa
