/- Rows of one's own, several at once; what is touched between two places alone. -/
import Derived.Test.YtjhmfaibpnagcaaGreatGStS
import Derived.Test.YtjhmfaibpnagcaaGreatGBC
import Derived.Test.YtjhmfaibpnagcaaGreatGBB
namespace Go.Proofs.YtjhmfaibpnagcaaGreat
open Go.RowKit
namespace U
/-- Nothing but blocks from a to b has turned. -/
structure Tch (a b : Nat) (w w' : World) : Prop where
  os : w'.os = w.os
  tape : w'.tape = w.tape
  output : w'.output = w.output
  size : w.heap.size ≤ w'.heap.size
  block : ∀ k, k < w.heap.size → (k < a ∨ b ≤ k) → w'.heap[k]? = w.heap[k]?
theorem Tch.refl (a b : Nat) (w : World) : Tch a b w w := ⟨rfl, rfl, rfl, Nat.le_refl _, fun _ _ _ => rfl⟩
theorem Tch.trans {a b : Nat} {x y z : World} (h : Tch a b x y) (k : Tch a b y z) : Tch a b x z :=
  ⟨k.os.trans h.os, k.tape.trans h.tape, k.output.trans h.output, Nat.le_trans h.size k.size, fun i hi hn => (k.block i (Nat.lt_of_lt_of_le hi h.size) hn).trans (h.block i hi hn)⟩
theorem Tch.of_grown {a b : Nat} {w w' : World} {row : Option Nat} (h : w.grownBy w' row) (hr : ∀ g, row = some g → a ≤ g ∧ g < b) : Tch a b w w' :=
  ⟨h.os, h.tape, h.output, h.size, fun k hk hn => h.block k hk (fun e => by have := hr k e.symm; omega)⟩
theorem Tch.of_below {a b : Nat} {w w' : World} (h : Below w.heap.size w w') : Tch a b w w' := ⟨h.os, h.tape, h.output, h.size, fun k hk _ => h.block k hk⟩
theorem Tch.below {a b : Nat} {w w' : World} (h : Tch a b w w') (ha : a ≤ w.heap.size) : Below a w w' := ⟨h.os, h.tape, h.output, h.size, fun k hk => h.block k (by omega) (Or.inl hk)⟩
/-- A row: the element's type and size, the value, how many, the cells. -/
structure Rw where
  e : TypeId
  z : Nat
  v : Value
  n : Nat
  xs : List Value
def blks (R : List Rw) : List Nat := R.filterMap fun r => r.v.ownBlock
theorem blks_app (R S : List Rw) : blks (R ++ S) = blks R ++ blks S := List.filterMap_append
theorem blks_mem {R : List Rw} {g : Nat} (h : g ∈ blks R) : ∃ r ∈ R, r.v.ownBlock = some g := by simpa [blks] using h
theorem mem_blks {R : List Rw} {r : Rw} {g : Nat} (h : r ∈ R) (hg : r.v.ownBlock = some g) : g ∈ blks R := by
  unfold blks
  rw [List.mem_filterMap]
  exact ⟨r, h, hg⟩
structure Own (lo hi : Nat) (w : World) (R : List Rw) : Prop where
  own : ∀ r ∈ R, w.ownsRow lo r.e r.z r.v r.n r.xs
  hi : ∀ g ∈ blks R, g < hi
  nd : (blks R).Nodup
theorem own_blk {w : World} {lo n z g : Nat} {e : TypeId} {v : Value} {xs : List Value} (h : w.ownsRow lo e z v n xs) (hg : v.ownBlock = some g) : lo ≤ g ∧ g < w.heap.size := by
  rcases h.2 with ⟨rfl, _⟩ | ⟨g', cap, cur, rfl, h1, h2, _⟩
  · cases hg
  · cases hg
    exact ⟨h1, (Array.getElem?_eq_some_iff.1 h2).1⟩
theorem own_same {w w' : World} {lo n z : Nat} {e : TypeId} {v : Value} {xs : List Value} (h : w.ownsRow lo e z v n xs) (hb : ∀ g, v.ownBlock = some g → w'.heap[g]? = w.heap[g]?) : w'.ownsRow lo e z v n xs := by
  refine ⟨h.1, ?_⟩
  rcases h.2 with h2 | ⟨g, cap, cur, rfl, h3, h4, h5⟩
  · exact Or.inl h2
  · exact Or.inr ⟨g, cap, cur, rfl, h3, (hb g rfl).trans h4, h5⟩
theorem Own.lo {lo hi : Nat} {w : World} {R : List Rw} (h : Own lo hi w R) : ∀ g ∈ blks R, lo ≤ g := fun g hg => by
  obtain ⟨r, hr, e⟩ := blks_mem hg
  exact (own_blk (h.own r hr) e).1
theorem Own.nil (lo hi : Nat) (w : World) : Own lo hi w [] := ⟨fun r hr => by simp at hr, fun g hg => by simp [blks] at hg, by simp [blks]⟩
theorem Own.single {lo hi : Nat} {w : World} {r : Rw} (h : w.ownsRow lo r.e r.z r.v r.n r.xs) (hh : w.heap.size ≤ hi) : Own lo hi w [r] := by
  refine ⟨fun s hs => ?_, fun g hg => ?_, ?_⟩
  · rw [List.mem_singleton] at hs
    subst hs
    exact h
  · obtain ⟨s, hs, e⟩ := blks_mem hg
    rw [List.mem_singleton] at hs
    subst hs
    have := (own_blk h e).2
    omega
  · unfold blks
    cases hb : r.v.ownBlock <;> simp [hb]
theorem Own.wide {lo lo' hi hi' : Nat} {w : World} {R : List Rw} (h : Own lo hi w R) (h1 : lo' ≤ lo) (h2 : hi ≤ hi') : Own lo' hi' w R :=
  ⟨fun r hr => own_mono (h.own r hr) h1, fun g hg => Nat.lt_of_lt_of_le (h.hi g hg) h2, h.nd⟩
theorem Own.app {lo mid hi : Nat} {w : World} {R S : List Rw} (h : Own lo mid w R) (k : Own mid hi w S) (h1 : lo ≤ mid) (h2 : mid ≤ hi) : Own lo hi w (R ++ S) := by
  refine ⟨fun r hr => ?_, fun g hg => ?_, ?_⟩
  · rcases List.mem_append.1 hr with hr | hr
    · exact h.own r hr
    · exact own_mono (k.own r hr) h1
  · rw [blks_app] at hg
    rcases List.mem_append.1 hg with hg | hg
    · have := h.hi g hg; omega
    · exact k.hi g hg
  · rw [blks_app, List.nodup_append]
    refine ⟨h.nd, k.nd, fun a ha b hb e => ?_⟩
    have := h.hi a ha
    have := k.lo b hb
    omega
theorem Own.perm {lo hi : Nat} {w : World} {R S : List Rw} (h : Own lo hi w R) (p : R.Perm S) : Own lo hi w S := by
  have hp : (blks R).Perm (blks S) := p.filterMap _
  exact ⟨fun r hr => h.own r (p.mem_iff.2 hr), fun g hg => h.hi g (hp.mem_iff.2 hg), hp.nodup_iff.1 h.nd⟩
theorem Own.right {lo hi : Nat} {w : World} {R S : List Rw} (h : Own lo hi w (R ++ S)) : Own lo hi w S :=
  ⟨fun r hr => h.own r (List.mem_append_right _ hr), fun g hg => h.hi g (by rw [blks_app]; exact List.mem_append_right _ hg), by
    have := h.nd
    rw [blks_app, List.nodup_append] at this
    exact this.2.1⟩
theorem Own.blocks {lo hi : Nat} {w w' : World} {R : List Rw} (h : Own lo hi w R) (hb : ∀ g ∈ blks R, w'.heap[g]? = w.heap[g]?) : Own lo hi w' R :=
  ⟨fun r hr => own_same (h.own r hr) (fun g hg => hb g (mem_blks hr hg)), h.hi, h.nd⟩
theorem Own.lt {lo hi : Nat} {w : World} {R : List Rw} (h : Own lo hi w R) : ∀ g ∈ blks R, g < w.heap.size := fun g hg => by
  obtain ⟨r, hr, e⟩ := blks_mem hg
  exact (own_blk (h.own r hr) e).2
theorem Own.below {lo hi : Nat} {w w' : World} {R : List Rw} (h : Own lo hi w R) (hb : Below w.heap.size w w') : Own lo hi w' R :=
  h.blocks fun g hg => hb.block g (h.lt g hg)
theorem Own.grown {lo hi : Nat} {w w' : World} {R : List Rw} {row : Option Nat} (h : Own lo hi w R) (hg : w.grownBy w' row) (hr : ∀ g ∈ blks R, some g ≠ row) : Own lo hi w' R :=
  h.blocks fun g hm => hg.block g (h.lt g hm) (hr g hm)
theorem Own.tch {lo hi a b : Nat} {w w' : World} {R : List Rw} (h : Own lo hi w R) (ht : Tch a b w w') (hb : b ≤ lo) : Own lo hi w' R :=
  h.blocks fun g hm => ht.block g (h.lt g hm) (Or.inr (by have := h.lo g hm; omega))
/-- One row is written anew. -/
theorem Own.set {lo hi : Nat} {w w' : World} {A B : List Rw} {r r' : Rw} (h : Own lo hi w (A ++ r :: B)) (hv : r'.v = r.v) (hg : w.grownBy w' r.v.ownBlock) (ho : w'.ownsRow lo r'.e r'.z r'.v r'.n r'.xs) : Own lo hi w' (A ++ r' :: B) := by
  have hbl : blks (A ++ r' :: B) = blks (A ++ r :: B) := by
    unfold blks
    rw [List.filterMap_append, List.filterMap_append, List.filterMap_cons, List.filterMap_cons, hv]
  have hn := h.nd
  have key : ∀ s, (s ∈ A ∨ s ∈ B) → ∀ g, s.v.ownBlock = some g → some g ≠ r.v.ownBlock := fun s hs g hsg e => by
    rw [blks_app] at hn
    have e2 : blks (r :: B) = g :: blks B := by unfold blks; rw [List.filterMap_cons, ← e]
    rw [e2] at hn
    rcases hs with hs | hs
    · exact (List.nodup_append.1 hn).2.2 g (mem_blks hs hsg) g (by simp) rfl
    · have := (List.nodup_append.1 hn).2.1
      rw [List.nodup_cons] at this
      exact this.1 (mem_blks hs hsg)
  refine ⟨fun s hs => ?_, by rw [hbl]; exact h.hi, by rw [hbl]; exact h.nd⟩
  rcases List.mem_append.1 hs with hs | hs
  · have ho := h.own s (List.mem_append_left _ hs)
    exact own_same ho fun g e => hg.block g (own_blk ho e).2 (key s (Or.inl hs) g e)
  · rcases List.mem_cons.1 hs with rfl | hs
    · exact ho
    · have ho := h.own s (List.mem_append_right _ (List.mem_cons_of_mem _ hs))
      exact own_same ho fun g e => hg.block g (own_blk ho e).2 (key s (Or.inr hs) g e)
/-- The rows of directories. -/
def nilV : Value := .slice none 0 0
def dRow (v : Value) (l : Rcl) : Rw := ⟨52, 4, v, l.length, flR l⟩
def nRow (v : Value) (l : Prl) : Rw := ⟨57, 2, v, l.length, (fl l).map (Value.int .i64)⟩
def hRow (v : Value) (l : Hdl) : Rw := ⟨88, 5, v, l.length, flH l⟩
def oRow (v : Value) (us : List Value) : Rw := ⟨33, 1, v, us.length, us⟩
def uAt (us : List Value) (j : Nat) : Value := us.getD j nilV
def pRows (us : List Value) (p : Pst) : Nat → List Rw
  | 0 => []
  | k + 1 => pRows us p k ++ [dRow (uAt us k) (dAt p k)]
theorem pRows_mem (us : List Value) (p : Pst) : ∀ k j, j < k → dRow (uAt us j) (dAt p j) ∈ pRows us p k
  | k + 1, j, h => by
    show _ ∈ pRows us p k ++ [dRow (uAt us k) (dAt p k)]
    by_cases e : j = k
    · subst e; simp
    · exact List.mem_append_left _ (pRows_mem us p k j (by omega))
theorem uAt_app {us : List Value} {u : Value} {j : Nat} (h : j < us.length) : uAt (us ++ [u]) j = uAt us j := by
  unfold uAt
  rw [List.getD_eq_getElem?_getD, List.getD_eq_getElem?_getD, List.getElem?_append_left h]
theorem uAt_last (us : List Value) (u : Value) : uAt (us ++ [u]) us.length = u := by
  unfold uAt
  rw [List.getD_eq_getElem?_getD, List.getElem?_append_right (Nat.le_refl _)]
  simp
theorem pRows_us {us us' : List Value} {p p' : Pst} : ∀ k, (∀ j, j < k → uAt us j = uAt us' j ∧ dAt p j = dAt p' j) → pRows us p k = pRows us' p' k
  | 0, _ => rfl
  | k + 1, h => by
    show pRows us p k ++ [dRow (uAt us k) (dAt p k)] = pRows us' p' k ++ [dRow (uAt us' k) (dAt p' k)]
    rw [pRows_us k (fun j hj => h j (by omega)), (h k (by omega)).1, (h k (by omega)).2]
/-- The rows of a state. -/
def sRows (v : Sv) (us : List Value) (s : St) : List Rw := [dRow v.d s.d] ++ ([nRow v.n s.n] ++ ([hRow v.h s.h] ++ ([oRow v.p us] ++ pRows us s.p s.p.length)))
/-- A state that owns its memory. -/
structure StOwn (lo hi : Nat) (w : World) (v : Sv) (us : List Value) (s : St) : Prop where
  own : Own lo hi w (sRows v us s)
  len : us.length = s.p.length
theorem own_dss {lo hi : Nat} {w : World} {v : Value} {us : List Value} {p : Pst} (h : Own lo hi w ([oRow v us] ++ pRows us p p.length)) (hl : us.length = p.length) : Dss w v p := by
  have h0 := h.own (oRow v us) (by simp)
  have h1 : w.ownsRow lo 33 1 v us.length us := h0
  rcases h1.2 with ⟨rfl, hn⟩ | ⟨g, cap, cur, rfl, hB, hg, _⟩
  · left
    exact ⟨List.eq_nil_of_length_eq_zero (by omega), none, 0, rfl⟩
  · right
    refine ⟨g, 0, cap, by rw [hl], (Array.getElem?_eq_some_iff.1 hg).1, fun j hj => ?_⟩
    have hr := h.own _ (List.mem_append_right _ (pRows_mem us p p.length j hj))
    have hr : w.ownsRow lo 52 4 (uAt us j) (dAt p j).length (flR (dAt p j)) := hr
    refine ⟨uAt us j, ?_, own_rcs hr⟩
    rw [Nat.zero_add]
    have := h1.cellAt j (by omega)
    rw [this]
    unfold uAt
    rw [List.getD_eq_getElem?_getD, List.getElem?_eq_getElem (by omega)]
    rfl
theorem StOwn.sts {lo hi : Nat} {w : World} {v : Sv} {us : List Value} {s : St} (h : StOwn lo hi w v us s) : Sts w v s := by
  have h1 := h.own.own (dRow v.d s.d) (by simp [sRows])
  have h2 := h.own.own (nRow v.n s.n) (by simp [sRows])
  have h3 := h.own.own (hRow v.h s.h) (by simp [sRows])
  refine ⟨own_rcs (B := lo) (e := 52) h1, own_prs (B := lo) (e := 57) h2, own_hds (B := lo) (e := 88) h3, own_dss (lo := lo) (hi := hi) (us := us) ?_ h.len⟩
  exact h.own.right.right.right
theorem StOwn.below {lo hi : Nat} {w w' : World} {v : Sv} {us : List Value} {s : St} (h : StOwn lo hi w v us s) (hb : Below w.heap.size w w') : StOwn lo hi w' v us s := ⟨h.own.below hb, h.len⟩
theorem StOwn.tch {lo hi a b : Nat} {w w' : World} {v : Sv} {us : List Value} {s : St} (h : StOwn lo hi w v us s) (ht : Tch a b w w') (hb : b ≤ lo) : StOwn lo hi w' v us s := ⟨h.own.tch ht hb, h.len⟩
theorem StOwn.wide {lo lo' hi hi' : Nat} {w : World} {v : Sv} {us : List Value} {s : St} (h : StOwn lo hi w v us s) (h1 : lo' ≤ lo) (h2 : hi ≤ hi') : StOwn lo' hi' w v us s := ⟨h.own.wide h1 h2, h.len⟩
end U
end Go.Proofs.YtjhmfaibpnagcaaGreat
