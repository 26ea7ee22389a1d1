/- Records looked up, by the program and by the model. -/
import Derived.Test.YthmnjojjnlnbjaaAn3
namespace Go.Proofs.Ythmnjojjnlnbjaa
open Go.RowKit Go.Maps
namespace U
def lrC (l : Rcl) (s : ByteArray) : Int := if anC l s = 0 then (if (anO l s).isSome = true then 0 else 4) else anC l s
/-- A record looked up, as a value. -/
def lrV (c : Int) (o : Option Rc) : Value := .agg #[.int .i64 c, .string (o.getD rcZ).l, .int .i64 (o.getD rcZ).v, .int .i64 (o.getD rcZ).o, .int .i64 (o.getD rcZ).p]
theorem set5 {B : Nat} {w w' : World} {g : Nat} (h : Below B w w') (hg : B ≤ g) (a b c d e : Value) : Below B w (((((w'.setCell ⟨g, 0, none⟩ a).setCell ⟨g, 1, none⟩ b).setCell ⟨g, 2, none⟩ c).setCell ⟨g, 3, none⟩ d).setCell ⟨g, 4, none⟩ e) :=
  (((((h.setCell hg _).setCell hg _).setCell hg _).setCell hg _).setCell hg _)
theorem anO_bad {l : Rcl} {s : ByteArray} (h : ¬ anC l s = 0) : anO l s = none := by unfold anO; rw [if_neg h]
set_option maxRecDepth 100000 in
set_option maxHeartbeats 4000000 in
theorem implLookRecord_any (v : Value) (l : Rcl) (s : ByteArray) (w : World) (hv : Rcs w v l) (hl : Lbs l) (hx : l.length ≤ 1048576) (hs : s.size ≤ 1048576) :
    Calls Try.prog 18 #[.agg #[v], .string s] w fun e w' => e = .returned (lrV (lrC l s) (anO l s)) ∧ Below w.heap.size w w' := by
  obtain ⟨W, hW⟩ : ∃ W, W = (w.alloc (.cells #[v] 26)).alloc (.cells #[.int .i64 0, .string ⟨#[]⟩, .int .i64 0, .int .i64 0, .int .i64 0] 36) := ⟨_, rfl⟩
  have HW : Hid ((w.alloc (.cells #[v] 26)).alloc (.cells #[.int .i64 0, .string ⟨#[]⟩, .int .i64 0, .int .i64 0, .int .i64 0] 36) = W) := hW.symm
  have hB : Below w.heap.size w W := by rw [hW]; exact two_new _ _
  have h1 : W.heap[w.heap.size + 1]? = some (.cells #[.int .i64 0, .string ⟨#[]⟩, .int .i64 0, .int .i64 0, .int .i64 0] 36) := by rw [hW]; exact heap_new2 w _ _
  have hA := implAnswerOf_any v l s W (hv.below hB) hl hx hs
  obtain ⟨a, c, rfl⟩ := hv.shape
  generalize l.length = n at *
  clear hW hv
  unfold ansV at hA
  unfold lrC lrV
  have HN : Hid (¬ anC l s = 0 → anO l s = none) := (anO_bad : ¬ anC l s = 0 → anO l s = none)
  generalize anO l s = o at *
  generalize anC l s = q at *
  generalize anK l s = kz at *
  have hlt1 := (Array.getElem?_eq_some_iff.1 h1).1
  by_cases hq : q = 0
  · subst hq
    rw [if_pos rfl]
    rcases o with _ | ⟨x0, x1, x2, x3⟩
    · dsimp only [Option.isSome, Option.getD, rcZ] at hA ⊢
      go_enter Try.func18, Try.ntmps18
      go_wp2_with fail
      rw [HW.out]
      refine hA.mono ?_
      rintro e w1 ⟨rfl, hb1⟩
      obtain ⟨W1, hW1⟩ : ∃ W1, W1 = w1.alloc (.cells #[.int .i64 0, .int .i64 kz, .bool false, .string ⟨#[]⟩, .int .i64 0, .int .i64 0, .int .i64 0] 47) := ⟨_, rfl⟩
      have h3 : W1.heap[w1.heap.size]? = some (.cells #[.int .i64 0, .int .i64 kz, .bool false, .string ⟨#[]⟩, .int .i64 0, .int .i64 0, .int .i64 0] 47) := by rw [hW1]; exact heap_alloc_new w1 _
      have h4 : W1.heap[w.heap.size + 1]? = some (.cells #[.int .i64 0, .string ⟨#[]⟩, .int .i64 0, .int .i64 0, .int .i64 0] 36) := by rw [hW1]; exact ((one_new _).block _ (Nat.lt_of_lt_of_le hlt1 hb1.size)).trans ((hb1.block _ hlt1).trans h1)
      have hB1 : Below w.heap.size w W1 := by rw [hW1]; exact (below_after_of hB hb1).alloc (below_after_of hB hb1).size _
      have HW1 : Hid (w1.alloc (.cells #[.int .i64 0, .int .i64 kz, .bool false, .string ⟨#[]⟩, .int .i64 0, .int .i64 0, .int .i64 0] 47) = W1) := hW1.symm
      obtain ⟨c0, c1, c2, c3, c4, f0, f1, f2, f3, f4⟩ := five_cells h4
      obtain ⟨d0, d1, d2, d3, d4, d5, d6, -, -, -, -, -, -, -⟩ := seven_cells h3
      rw [hW1] at c0 c1 c2 c3 c4 f0 f1 f2 f3 f4 d0 d1 d2 d3 d4 d5 d6
      have hne1 : w1.heap.size ≠ w.heap.size + 1 := by have := hb1.size; omega
      clear hA hb1 h3 h4 hW1 hlt1
      go_wp2
      exact bodyPost_ret (v := .agg #[.int .i64 4, .string ⟨#[]⟩, .int .i64 0, .int .i64 0, .int .i64 0]) (by simp [results, Try.results18, go_sem, *]) rfl ⟨rfl, by rw [HW1.out]; exact set5 hB1 (Nat.le_succ _) _ _ _ _ _⟩
    · dsimp only [Option.isSome, Option.getD] at hA ⊢
      go_enter Try.func18, Try.ntmps18
      go_wp2_with fail
      rw [HW.out]
      refine hA.mono ?_
      rintro e w1 ⟨rfl, hb1⟩
      obtain ⟨W1, hW1⟩ : ∃ W1, W1 = w1.alloc (.cells #[.int .i64 0, .int .i64 kz, .bool true, .string x0, .int .i64 x1, .int .i64 x2, .int .i64 x3] 47) := ⟨_, rfl⟩
      have h3 : W1.heap[w1.heap.size]? = some (.cells #[.int .i64 0, .int .i64 kz, .bool true, .string x0, .int .i64 x1, .int .i64 x2, .int .i64 x3] 47) := by rw [hW1]; exact heap_alloc_new w1 _
      have h4 : W1.heap[w.heap.size + 1]? = some (.cells #[.int .i64 0, .string ⟨#[]⟩, .int .i64 0, .int .i64 0, .int .i64 0] 36) := by rw [hW1]; exact ((one_new _).block _ (Nat.lt_of_lt_of_le hlt1 hb1.size)).trans ((hb1.block _ hlt1).trans h1)
      have hB1 : Below w.heap.size w W1 := by rw [hW1]; exact (below_after_of hB hb1).alloc (below_after_of hB hb1).size _
      have HW1 : Hid (w1.alloc (.cells #[.int .i64 0, .int .i64 kz, .bool true, .string x0, .int .i64 x1, .int .i64 x2, .int .i64 x3] 47) = W1) := hW1.symm
      obtain ⟨c0, c1, c2, c3, c4, f0, f1, f2, f3, f4⟩ := five_cells h4
      obtain ⟨d0, d1, d2, d3, d4, d5, d6, -, -, -, -, -, -, -⟩ := seven_cells h3
      rw [hW1] at c0 c1 c2 c3 c4 f0 f1 f2 f3 f4 d0 d1 d2 d3 d4 d5 d6
      clear hA hb1 h3 h4 hW1 hlt1
      go_wp2
      exact bodyPost_ret (v := .agg #[.int .i64 0, .string x0, .int .i64 x1, .int .i64 x2, .int .i64 x3]) (by simp [results, Try.results18, go_sem, *]) rfl ⟨rfl, by rw [HW1.out]; exact set5 hB1 (Nat.le_succ _) _ _ _ _ _⟩
  · rw [if_neg hq]
    obtain rfl := HN.out hq
    have hqn : (q != 0) = true := by simpa using hq
    dsimp only [Option.isSome, Option.getD, rcZ] at hA ⊢
    clear HN hq
    go_enter Try.func18, Try.ntmps18
    go_wp2_with fail
    rw [HW.out]
    refine hA.mono ?_
    rintro e w1 ⟨rfl, hb1⟩
    obtain ⟨W1, hW1⟩ : ∃ W1, W1 = w1.alloc (.cells #[.int .i64 q, .int .i64 kz, .bool false, .string ⟨#[]⟩, .int .i64 0, .int .i64 0, .int .i64 0] 47) := ⟨_, rfl⟩
    have h3 : W1.heap[w1.heap.size]? = some (.cells #[.int .i64 q, .int .i64 kz, .bool false, .string ⟨#[]⟩, .int .i64 0, .int .i64 0, .int .i64 0] 47) := by rw [hW1]; exact heap_alloc_new w1 _
    have h4 : W1.heap[w.heap.size + 1]? = some (.cells #[.int .i64 0, .string ⟨#[]⟩, .int .i64 0, .int .i64 0, .int .i64 0] 36) := by rw [hW1]; exact ((one_new _).block _ (Nat.lt_of_lt_of_le hlt1 hb1.size)).trans ((hb1.block _ hlt1).trans h1)
    have hB1 : Below w.heap.size w W1 := by rw [hW1]; exact (below_after_of hB hb1).alloc (below_after_of hB hb1).size _
    have HW1 : Hid (w1.alloc (.cells #[.int .i64 q, .int .i64 kz, .bool false, .string ⟨#[]⟩, .int .i64 0, .int .i64 0, .int .i64 0] 47) = W1) := hW1.symm
    obtain ⟨c0, c1, c2, c3, c4, f0, f1, f2, f3, f4⟩ := five_cells h4
    obtain ⟨d0, d1, d2, d3, d4, d5, d6, -, -, -, -, -, -, -⟩ := seven_cells h3
    rw [hW1] at c0 c1 c2 c3 c4 f0 f1 f2 f3 f4 d0 d1 d2 d3 d4 d5 d6
    clear hA hb1 h3 h4 hW1 hlt1
    go_wp2
    exact bodyPost_ret (v := .agg #[.int .i64 q, .string ⟨#[]⟩, .int .i64 0, .int .i64 0, .int .i64 0]) (by simp [results, Try.results18, go_sem, *]) rfl ⟨rfl, by rw [HW1.out]; exact set5 hB1 (Nat.le_succ _) _ _ _ _ _⟩
end U
end Go.Proofs.Ythmnjojjnlnbjaa
