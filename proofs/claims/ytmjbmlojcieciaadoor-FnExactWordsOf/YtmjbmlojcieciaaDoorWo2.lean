/- A range over the pieces of a text whose body always goes on. -/
import Derived.Test.YtmjbmlojcieciaaDoorWo1
namespace Go.Proofs.YtmjbmlojcieciaaDoor
open Go.RowKit Go.Shelf
namespace U
attribute [local go_sem] Oper.semAt_some
/-- How a body is left that always goes on. -/
def goesOn (B bs : Nat) (I : List ByteArray → World → Prop) (xs : List ByteArray) (W : World) : Exit → Act → World → Prop
  | .normal, _, W' => KeepsFrom B W W' ∧ TriAt bs W W' ∧ I xs W'
  | _, _, _ => False
/-- A fact that stays where blocks come, where the text's box is written, where the loop's own rows are. -/
def StaysBy (B bs : Nat) (I : List ByteArray → World → Prop) : Prop :=
  ∀ p A C row, I p A → A.grownBy C row → (∀ r, row = some r → r = bs ∨ (B ≤ r ∧ ∃ o : Obj, A.heap[r]? = some o ∧ o.isCells = false)) → I p C
set_option maxHeartbeats 1000000 in
theorem range_pieces {g : Operand} {ps : Array Tmp} {assign body : Code} {Q : Exit → Act → World → Prop} {a : Act} {w : World} (n : Nat) (h2 : 2 ≤ n) (bs : Nat) (s : ByteArray) (hb : bs + 3 ≤ w.heap.size) (hs : s.size ≤ 1048576)
    (hg : a.eval g = .func (.func 63) #[] #[.pointer (some ⟨bs + 1, 0, none⟩), .pointer (some ⟨bs, 0, none⟩), .pointer (some ⟨bs + 2, 0, none⟩)])
    (eg : ∀ args w, (callFunc 63 args).run Tryd.prog w = .ok (.enter 63 args) w) (hps : ps.size = 1)
    (c0 : w.heap[bs]? = some (.cells #[.string s] 9 (0, 0))) (c1 : w.cell? ⟨bs + 1, 0, none⟩ = some (.string ⟨#[32]⟩)) (c2 : w.cell? ⟨bs + 2, 0, none⟩ = some (.int .i64 0))
    (I : List ByteArray → World → Prop) (hI : StaysBy w.heap.size bs I) (h0 : I [] w) (a1 : ByteArray → Act)
    (hassign : ∀ (l : Nat) (x : ByteArray) (W : World) (K : Act → World → Prop), K (a1 x) W →
      assign.wpIn (Fence.wide.inRound l) (n - 1 - 1) Tryd.prog (Exit.then K (fun _ _ _ => False)) { tmps := (ps.zip #[Value.string x]).foldl (fun t (p, v) => t.setIfInBounds p v) a.tmps, defers := [] } W)
    (hbody : ∀ (l : Nat) (pre : List ByteArray) (x : ByteArray) (W : World), I pre W → x.size ≤ 1048576 → (∃ tl, pre ++ x :: tl = cutB s) → body.wpIn (Fence.wide.inRound l) (n - 1 - 1) Tryd.prog (goesOn w.heap.size bs I (pre ++ [x]) W) (a1 x) W)
    (hdone : ∀ (D : Nat) (W : World), w.heap.size ≤ D → I (cutB s) W → W.heap[D]? = some (.deferred (some [])) → Q .normal { a with defers := { target := .collected D, args := #[] } :: a.defers } W) :
    (Code.rangeFunc g ps assign body).wpIn Fence.wide n Tryd.prog Q a w := by
  refine wpIn_rangeFunc fun fn hfn => ?_
  obtain ⟨L, hL⟩ : ∃ L : LoopState → Loop, L = fun st => { state := st, pending := none, fn, tmps := a.tmps, params := ps, assign, body, defers := w.heap.size } := ⟨_, rfl⟩
  obtain ⟨W1, hW1⟩ : ∃ W1, W1 = (w.alloc (.deferred (some []))).alloc (.loop (L .ready)) := ⟨_, rfl⟩
  have hl1 : W1.heap[w.heap.size + 1]? = some (.loop (L .ready)) := by
    have h := World.alloc_heap_new (w.alloc (.deferred (some []))) (.loop (L .ready))
    rw [World.size_alloc] at h
    rw [hW1]; exact h
  have hd1 : W1.heap[w.heap.size]? = some (.deferred (some [])) := by
    rw [hW1]; exact (Below.heap_alloc _ _ _ (by simp)).trans (World.alloc_heap_new w _)
  have hB1 : Below w.heap.size w W1 := by
    rw [hW1]; exact ((Below.refl _ w).alloc (Nat.le_refl _) _).alloc (by simp) _
  have hI1 : I [] W1 := by
    rw [hW1]
    exact hI _ _ _ none (hI _ _ _ none h0 (World.grownBy_alloc w _ none) (fun r e => by cases e)) (World.grownBy_alloc _ _ none) (fun r e => by cases e)
  refine ⟨w.heap.size + 1, [{ target := .collected w.heap.size, args := #[] }], W1, { target := .fn (.func 63) #[.pointer (some ⟨bs + 1, 0, none⟩), .pointer (some ⟨bs, 0, none⟩), .pointer (some ⟨bs + 2, 0, none⟩)], args := #[.func (.yield (w.heap.size + 1)) #[] #[]] }, W1, 63,
    #[.func (.yield (w.heap.size + 1)) #[] #[], .pointer (some ⟨bs + 1, 0, none⟩), .pointer (some ⟨bs, 0, none⟩), .pointer (some ⟨bs + 2, 0, none⟩)], W1, ?_, ?_, ?_, ?_, fun _ => Nat.le_trans (by decide) h2, ?_⟩
  · rw [hW1, hL]; exact run_enterLoop_outer _ _ _ _ _
  · simp only [resolve, hg]
    simp [go_sem]
  · intro f' hf'; simp [Target.leads] at hf'; subst hf'; trivial
  · simp [invoke, go_sem, eg]
  · refine (splitSeq_in (n - 1) (by omega) (w.heap.size + 1) bs s
      (fun pre W => I pre W ∧ W.heap[w.heap.size + 1]? = some (.loop (L .ready)) ∧ W.heap[w.heap.size]? = some (.deferred (some []))) ?_ ?_ W1 ⟨hI1, hl1, hd1⟩
      ((hB1.block bs (by omega)).trans c0) hs ((hB1.cell (p := ⟨bs + 1, 0, none⟩) (by show bs + 1 < _; omega)).trans c1) ((hB1.cell (p := ⟨bs + 2, 0, none⟩) (by show bs + 2 < _; omega)).trans c2)).mono ?_
    · -- what the iterator does leaves all of it as it is
      rintro p A C ⟨hi, hl, hd⟩ hgr
      refine ⟨hI _ _ _ _ hi hgr (fun r e => Or.inl (by cases e; rfl)), ?_, ?_⟩
      · exact (hgr.block _ (Array.getElem?_eq_some_iff.1 hl).1 (fun e => by cases e; omega)).trans hl
      · exact (hgr.block _ (Array.getElem?_eq_some_iff.1 hd).1 (fun e => by cases e; omega)).trans hd
    · -- a round
      rintro pre x W ⟨hi, hl, hd⟩ hx htl
      have hlt : w.heap.size + 1 < W.heap.size := (Array.getElem?_eq_some_iff.1 hl).1
      have hy := run_yield (P := Tryd.prog) (args := #[Value.string x]) hl (by rw [hL]; exact hps.symm)
      rw [hL] at hy
      refine ⟨fn, _, assign, body, hy, roundIn_of_wpIn hfn (hassign _ x W _ ⟨_, run_beginRound hl (by rw [hL]), ?_⟩)⟩
      have hl2 : (W.putObj (w.heap.size + 1) (.loop { L .ready with state := .busy })).heap[w.heap.size + 1]? = some (.loop { L .ready with state := .busy }) := World.putObj_heap_same hlt
      have hd2 : (W.putObj (w.heap.size + 1) (.loop { L .ready with state := .busy })).heap[w.heap.size]? = some (.deferred (some [])) := (World.putObj_heap_other (by omega)).trans hd
      have htri : ∀ (A : World) (o : Obj), TriAt bs A (A.putObj (w.heap.size + 1) o) := fun A o j hj => World.putObj_heap_other (by omega)
      have hb2 := htri W (.loop { L .ready with state := .busy })
      have hi2 : I pre (W.putObj (w.heap.size + 1) (.loop { L .ready with state := .busy })) := hI _ _ _ _ hi (grownBy_putObj' W _ _) (fun r e => by cases e; exact Or.inr ⟨by omega, _, hl, rfl⟩)
      refine wpIn_mono (hbody _ pre x _ hi2 hx htl) ?_
      rintro e a3 W3 hp
      cases e with
      | normal =>
        obtain ⟨hk3, hb3, hi3⟩ := hp
        have hl3 := hk3.same _ _ (by omega) hl2 rfl
        have hd3 := hk3.same _ _ (Nat.le_refl _) hd2 rfl
        have hr := run_endRound (P := Tryd.prog) none hl3
        have hb4 := htri W3 (.loop (L .ready))
        have hi4 : I (pre ++ [x]) (W3.putObj (w.heap.size + 1) (.loop (L .ready))) := hI _ _ _ _ hi3 (grownBy_putObj' W3 _ _) (fun r e => by cases e; exact Or.inr ⟨by omega, _, hl3, rfl⟩)
        have e4 : ({ ({ L .ready with state := .busy } : Loop) with state := if (none : Option Code).isNone then .ready else .done, pending := none } : Loop) = L .ready := by rw [hL]; rfl
        rw [e4] at hr
        exact ⟨_, _, hr, rfl, ⟨hi4, World.putObj_heap_same (Array.getElem?_eq_some_iff.1 hl3).1, (World.putObj_heap_other (by omega)).trans hd3⟩, hb2.trans (hb3.trans hb4)⟩
      | _ => exact hp.elim
    · -- behind the iterator
      rintro e W2 ⟨⟨v, rfl⟩, hi, hl, hd⟩
      have hr := run_endLoop (P := Tryd.prog) hl (by rw [hL]; simp)
      rw [hL] at hr
      refine ⟨none, _, hr, hdone _ _ (Nat.le_refl _) ?_ ((World.putObj_heap_other (by omega)).trans hd)⟩
      exact hI _ _ _ _ hi (grownBy_putObj' W2 _ _) (fun r e => by cases e; exact Or.inr ⟨by omega, _, hl, rfl⟩)
end U
end Go.Proofs.YtmjbmlojcieciaaDoor
