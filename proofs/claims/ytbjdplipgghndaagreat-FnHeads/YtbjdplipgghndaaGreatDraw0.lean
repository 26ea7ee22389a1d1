/- A source of choices, begun; a choice; what a law is handed. -/
import Derived.Test.YtbjdplipgghndaaGreatSrc
import Derived.OpenShut
namespace Go.Proofs.YtbjdplipgghndaaGreat
open Go.RowKit
namespace U
set_option maxHeartbeats 400000 in
theorem l1Source_any (cv : Value) (w : World) (h : ∃ a n c, cv = .slice a n c) :
    Calls Tryz.prog 56 #[cv] w fun e w' => e = .returned (.pointer (some ⟨w.heap.size, 0, none⟩)) ∧ w' = w.alloc (.cells #[cv, .int .i64 0] 158) := by
  obtain ⟨a, n, c, rfl⟩ := h
  go_enter Tryz.func56, Tryz.ntmps56
  go_wp2
  go_ret
  exact ⟨rfl, rfl⟩
theorem SrcAt.new {cv : Value} {cs : List Int} {w : World} (h : Ints .u8 w cv cs) (hl : cs.length ≤ 1048576) (hw : ∀ n ∈ cs, (Lit.int .u8 n).wf = true) (hob : cs ≠ [] → ∀ g, cv.ownBlock = some g → g < w.heap.size) : SrcAt w.heap.size cv cs 0 (w.alloc (.cells #[cv, .int .i64 0] 158)) := by
  refine ⟨heap_alloc_new w _, h.below (one_new _), hob, hl, fun j => ?_⟩
  by_cases hj : j < cs.length
  · rw [getD_eq hj]
    have := bounds_u8 (hw _ (List.getElem_mem hj))
    omega
  · simp [List.getD_eq_getElem?_getD, List.getElem?_eq_none (Nat.le_of_not_lt hj)]
set_option maxHeartbeats 400000 in
theorem l1Chance_any (q a : Nat) (cv : Value) (cs : List Int) (n : Nat) (w : World) (h : SrcAt q cv cs a w) (ha : a ≤ 100000) (hn : 1 ≤ n) (hn2 : n ≤ 1048576) :
    Calls Tryz.prog 91 #[.pointer (some ⟨q, 0, none⟩), .int .i64 n] w fun e w' => ∃ r : Bool, e = .returned (.bool r) ∧ w.grownBy w' (some q) ∧ SrcAt q cv cs (a + 1) w' := by
  go_enter Tryz.func91, Tryz.ntmps91
  go_wp2_with (go_at_call 59; refine (l1Next_any q a cv cs n _ h ha hn hn2).mono ?_; rintro e w' ⟨r, hr, rfl, hg, hs⟩)
  go_ret
  exact ⟨_, rfl, hg, hs⟩
set_option maxHeartbeats 400000 in
theorem l1Pick_any (q a : Nat) (cv : Value) (cs : List Int) (lv : Value) (xs : List Int) (w : World) (h : SrcAt q cv cs a w) (ha : a ≤ 100000) (hl : Ints .i64 w lv xs) (hne : lv.ownBlock ≠ some q) (h0 : 1 ≤ xs.length) (h1 : xs.length ≤ 1000) :
    Calls Tryz.prog 60 #[.pointer (some ⟨q, 0, none⟩), lv] w fun e w' => ∃ x ∈ xs, e = .returned (.int .i64 x) ∧ w.grownBy w' (some q) ∧ SrcAt q cv cs (a + 1) w' := by
  obtain ⟨x, c, rfl⟩ := hl.shape
  obtain ⟨_, b, off, rfl, hb, hc⟩ := hl.at (by omega)
  obtain ⟨n, hn⟩ : ∃ n, n = xs.length := ⟨_, rfl⟩
  have HN : Hid (n = xs.length) := hn
  rw [← hn] at hc h0 h1 ⊢
  have hbq : b ≠ q := fun e => hne (by simp [Value.ownBlock, e])
  clear hn hl hne
  go_enter Tryz.func60, Tryz.ntmps60
  go_wp2_with (go_at_call 59; refine (l1Next_any q a cv cs n _ h ha h0 (by omega)).mono ?_; rintro e w' ⟨r, hr, rfl, hg, hs⟩; have hcr := hg.cell (hc r hr) (fun e => hbq (Option.some.inj e)); have hri : (r : Int) < (n : Int) := by omega)
  go_ret
  refine ⟨xs.getD r 0, ?_, rfl, hg, hs⟩
  have hr2 : r < xs.length := by have := HN.out; omega
  rw [getD_eq hr2]
  exact List.getElem_mem hr2
/-- A literal list in a block of its own. -/
theorem lit_ints {w : World} (k : IntKind) (xs : List Int) (e : TypeId) (c : Nat) : Ints k (w.alloc (.cells (xs.map (Value.int k)).toArray e)) (.slice (some ⟨w.heap.size, 0, none⟩) xs.length c) xs := by
  refine Or.inr ⟨w.heap.size, 0, c, rfl, by simp, fun j hj => ?_⟩
  rw [Nat.zero_add, cell_of_row _ _ _ _ _ _ (heap_alloc_new w _)]
  simp [hj]
theorem grown_new {w a b : World} {row r2 : Option Nat} (h : w.grownBy a row) (k : a.grownBy b r2) (hr : ∀ g, r2 = some g → w.heap.size ≤ g) : w.grownBy b row :=
  ⟨k.os.trans h.os, k.tape.trans h.tape, k.output.trans h.output, Nat.le_trans h.size k.size, fun i hi hne => (k.block i (Nat.lt_of_lt_of_le hi h.size) (fun e => by have := hr i e.symm; omega)).trans (h.block i hi hne)⟩
/-- A code, as a law is handed it. -/
def Code (w : World) (cv : Value) (cs : List Int) : Prop := Ints .u8 w cv cs ∧ cs.length ≤ 1048576 ∧ ∀ n ∈ cs, (Lit.int .u8 n).wf = true
theorem Code.below {w w' : World} {cv : Value} {cs : List Int} (h : Code w cv cs) (hb : Below w.heap.size w w') : Code w' cv cs := ⟨h.1.below hb, h.2⟩
theorem Code.src {w : World} {cv : Value} {cs : List Int} (h : Code w cv cs) (hob : cs ≠ [] → ∀ g, cv.ownBlock = some g → g < w.heap.size) : SrcAt w.heap.size cv cs 0 (w.alloc (.cells #[cv, .int .i64 0] 158)) := SrcAt.new h.1 h.2.1 h.2.2 hob
theorem Code.shape {w : World} {cv : Value} {cs : List Int} (h : Code w cv cs) : ∃ a n c, cv = .slice a n c := by
  obtain ⟨a, c, rfl⟩ := h.1.shape
  exact ⟨a, _, c, rfl⟩
/-- What was read on from a new source: of what was there nothing has turned. -/
theorem below_src {w w' : World} {o : Obj} (h : (w.alloc o).grownBy w' (some w.heap.size)) : Below w.heap.size w w' := (one_new o).grown h (by simp) (fun k e => by cases e; exact Nat.le_refl _)
end U
end Go.Proofs.YtbjdplipgghndaaGreat
