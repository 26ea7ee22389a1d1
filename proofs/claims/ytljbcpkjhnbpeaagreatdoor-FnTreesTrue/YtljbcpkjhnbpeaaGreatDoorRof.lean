/- What both RunesOf answer: one pair of a code and a list. -/
import Derived.Test.YtljbcpkjhnbpeaaGreatDoorRun
import Derived.Lib.OthersKept
namespace Go.Proofs.YtljbcpkjhnbpeaaGreatDoor
open Go.RowKit
namespace U
def rP (s : ByteArray) : Int × List Int := if 200 < s.size then (2, []) else match runes s with | none => (5, []) | some xs => (0, xs)
theorem bcell {W w1 : World} (hb : Below W.heap.size W w1) : (∀ b o, b < W.heap.size → w1.cell? ⟨b, o, none⟩ = W.cell? ⟨b, o, none⟩) ∧ (∀ b o, b < W.heap.size → w1.frozen? ⟨b, o, none⟩ = W.frozen? ⟨b, o, none⟩) :=
  ⟨fun b o h => hb.cell (p := ⟨b, o, none⟩) h, fun b o h => hb.frozen (p := ⟨b, o, none⟩) h⟩
/-- The answer of a function that hands back a code and a list of its own. -/
def IntsAns (w : World) (code : Int) (xs : List Int) (e : Ending) (w' : World) : Prop :=
  Below w.heap.size w w' ∧ ∃ v, e = .returned (.agg #[.int .i64 code, v]) ∧ w'.ownsRow w.heap.size 2 1 v xs.length (xs.map (Value.int .i64))
theorem rP_big {s : ByteArray} (h : 200 < s.size) : rP s = (2, []) := by simp [rP, h]
theorem rP_none {s : ByteArray} (h : ¬ 200 < s.size) (hr : runes s = none) : rP s = (5, []) := by simp [rP, h, hr]
theorem rP_some {s : ByteArray} {xs : List Int} (h : ¬ 200 < s.size) (hr : runes s = some xs) : rP s = (0, xs) := by simp [rP, h, hr]

theorem own_below {w w' : World} {B n size : Nat} {e : TypeId} {v : Value} {xs : List Value} (h : w.ownsRow B e size v n xs) (hb : Below w.heap.size w w') : w'.ownsRow B e size v n xs := by
  refine ⟨h.1, ?_⟩
  rcases h.2 with h2 | ⟨g, cap, cur, h2, h3, h4, h5⟩
  · exact Or.inl h2
  · exact Or.inr ⟨g, cap, cur, h2, h3, (hb.block g (Array.getElem?_eq_some_iff.1 h4).1).trans h4, h5⟩
theorem own_apart {w1 w2 : World} {B n1 n2 s1 s2 : Nat} {e1 e2 : TypeId} {v1 v2 : Value} {xs ys : List Value} (h1 : w1.ownsRow B e1 s1 v1 n1 xs) (h2 : w2.ownsRow (w1.heap.size + 1) e2 s2 v2 n2 ys) : v1.ownBlock = none ∨ v1.ownBlock ≠ v2.ownBlock := by
  rcases hk : v1.ownBlock with _ | k
  · exact Or.inl rfl
  · right
    intro e
    have a := (h1.lt k hk).2
    have b := (h2.lt k e.symm).1
    omega
theorem own_mono {w : World} {B B' n size : Nat} {e : TypeId} {v : Value} {xs : List Value} (h : w.ownsRow B' e size v n xs) (hB : B ≤ B') : w.ownsRow B e size v n xs := by
  refine ⟨h.1, ?_⟩
  rcases h.2 with h2 | ⟨g, cap, cur, h2, h3, h4⟩
  · exact Or.inl h2
  · exact Or.inr ⟨g, cap, cur, h2, Nat.le_trans hB h3, h4⟩
/-- A new block, then a call that turned nothing below: nothing below has turned. -/
theorem below_after {w w1 : World} {o : Obj} (hb : Below (w.alloc o).heap.size (w.alloc o) w1) : Below w.heap.size w w1 :=
  ((Below.refl _ w).alloc (Nat.le_refl _) o).trans (hb.mono (by simp))
theorem below_after_of {w w1 w2 : World} (h1 : Below w.heap.size w w1) (h2 : Below w1.heap.size w1 w2) : Below w.heap.size w w2 := h1.trans (h2.mono h1.size)
theorem two_cells {w : World} {b : Nat} {x y : Value} {t : TypeId} (h : w.heap[b]? = some (.cells #[x, y] t (0, 0))) : w.cell? ⟨b, 0, none⟩ = some x ∧ w.cell? ⟨b, 1, none⟩ = some y ∧ w.frozen? ⟨b, 0, none⟩ = false ∧ w.frozen? ⟨b, 1, none⟩ = false := by
  simp [World.cell?, World.frozen?, h]
end U
end Go.Proofs.YtljbcpkjhnbpeaaGreatDoor
