/- What is cut out of slots, and the sum of a part, by the model. -/
import Derived.Test.YthmnjojjnlnbjaaSlL
import Derived.Test.YthmnjojjnlnbjaaSl2
import Derived.Deep.AppendLies
namespace Go.Proofs.Ythmnjojjnlnbjaa
open Go.RowKit
namespace U
def cutAt (l : Prl) (a b : Int) (k : Nat) : Prl := cut (l.take k) a b
theorem cutAt_zero (l : Prl) (a b : Int) : cutAt l a b 0 = [] := rfl
theorem cutAt_all (l : Prl) (a b : Int) : cutAt l a b l.length = cut l a b := by unfold cutAt; rw [List.take_length]
theorem takeP {l : Prl} {k : Nat} (h : k < l.length) : l.take (k + 1) = l.take k ++ [pAt l k] := by
  rw [List.take_succ_eq_append_getElem h, pAt_eq h]
theorem cutAt_in {l : Prl} {a b : Int} {k : Nat} (h : k < l.length) (h1 : a ≤ (pAt l k).1) (h2 : (pAt l k).1 < b) : cutAt l a b (k + 1) = cutAt l a b k ++ [pAt l k] := by
  unfold cutAt cut
  rw [takeP h, List.filter_append, List.filter_cons_of_pos (by simp [h1, h2])]
  rfl
theorem cutAt_out {l : Prl} {a b : Int} {k : Nat} (h : k < l.length) (h1 : ¬ (a ≤ (pAt l k).1 ∧ (pAt l k).1 < b)) : cutAt l a b (k + 1) = cutAt l a b k := by
  unfold cutAt cut
  rw [takeP h, List.filter_append, List.filter_cons_of_neg (by simp; omega)]
  simp
theorem cutAt_len (l : Prl) (a b : Int) (k : Nat) : (cutAt l a b k).length ≤ l.length := by
  have h1 := cut_len (l.take k) a b
  rw [List.length_take] at h1
  unfold cutAt
  omega
theorem own_snoc {w : World} {B : Nat} {e : TypeId} {v : Value} {l : Prl} {x y : Int} (h : w.ownsRow B e 2 v (l.length + 1) ((fl l).map (Value.int .i64) ++ [.int .i64 x, .int .i64 y])) : w.ownsRow B e 2 v (l ++ [(x, y)]).length ((fl (l ++ [(x, y)])).map (Value.int .i64)) := by
  rw [fl_app, List.map_append, List.length_append]
  exact h
theorem own_shape2 {w : World} {B n : Nat} {e : TypeId} {v : Value} {xs : List Value} (h : w.ownsRow B e 2 v n xs) : ∃ a c, v = .slice a n c := by
  rcases h.2 with ⟨rfl, hn⟩ | ⟨g, cap, cur, rfl, _⟩
  · exact ⟨none, 0, by rw [hn]⟩
  · exact ⟨_, _, rfl⟩
theorem none_own (w : World) (e : TypeId) (B : Nat) (hB : B ≤ w.heap.size) : (w.alloc (.cells #[] e)).ownsRow B e 2 (.slice (some ⟨w.heap.size, 0, none⟩) 0 0) 0 [] :=
  World.ownsRow_made w #[] 0 hB (by decide) rfl
end U
end Go.Proofs.Ythmnjojjnlnbjaa
