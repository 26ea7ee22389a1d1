/- Rows of bytes in memory: how they read. -/
import Derived.Test.YtcdodpcdennemaaStO
import Derived.Test.YtcdodpcdennemaaStr
namespace Go.Proofs.Ytcdodpcdennemaa
open Go.RowKit
namespace U
abbrev Lgl := List (List Int)
def lAt (p : Lgl) (j : Nat) : List Int := p.getD j []
theorem lAt_eq {p : Lgl} {j : Nat} (h : j < p.length) : lAt p j = p[j] := by simp [lAt, List.getD_eq_getElem?_getD, List.getElem?_eq_getElem h]
/-- A slice value reads as a list of rows of bytes. -/
def Lgs (w : World) (v : Value) (p : Lgl) : Prop :=
  (p = [] ∧ ∃ a c, v = .slice a 0 c) ∨ ∃ b off c, v = .slice (some ⟨b, off, none⟩) p.length c ∧ b < w.heap.size ∧ ∀ j, j < p.length → ∃ u, w.cell? ⟨b, off + j, none⟩ = some u ∧ Ints .u8 w u (lAt p j)
theorem Lgs.below {w w' : World} {v : Value} {p : Lgl} (h : Lgs w v p) (hb : Below w.heap.size w w') : Lgs w' v p := by
  rcases h with h | ⟨b, off, c, rfl, hlt, hc⟩
  · exact Or.inl h
  · refine Or.inr ⟨b, off, c, rfl, Nat.lt_of_lt_of_le hlt hb.size, fun j hj => ?_⟩
    obtain ⟨u, h1, h2⟩ := hc j hj
    exact ⟨u, (hb.cell (p := ⟨b, off + j, none⟩) hlt).trans h1, h2.below hb⟩
theorem Lgs.shape {w : World} {v : Value} {p : Lgl} (h : Lgs w v p) : ∃ a c, v = .slice a p.length c := by
  rcases h with ⟨rfl, a, c, rfl⟩ | ⟨b, off, c, rfl, _⟩
  · exact ⟨a, c, rfl⟩
  · exact ⟨_, c, rfl⟩
theorem Lgs.at {w : World} {a : Option Addr} {n c : Nat} {p : Lgl} (h : Lgs w (.slice a n c) p) (h0 : 0 < p.length) : n = p.length ∧ ∃ b off, a = some ⟨b, off, none⟩ ∧ b < w.heap.size ∧ ∀ j, j < p.length → ∃ u, w.cell? ⟨b, off + j, none⟩ = some u ∧ Ints .u8 w u (lAt p j) := by
  rcases h with ⟨rfl, _⟩ | ⟨b, off, c', e, h1, h2⟩
  · simp at h0
  · cases e
    exact ⟨rfl, b, off, rfl, h1, h2⟩
theorem Lgs.nil (w : World) (a : Option Addr) (c : Nat) : Lgs w (.slice a 0 c) [] := Or.inl ⟨rfl, a, c, rfl⟩
/-- The rows of bytes as rows of one's own. -/
def yRow (v : Value) (l : List Int) : Rw := ⟨5, 1, v, l.length, l.map (Value.int .u8)⟩
def lRow (v : Value) (us : List Value) : Rw := ⟨27, 1, v, us.length, us⟩
def yRows (us : List Value) (p : Lgl) : Nat → List Rw
  | 0 => []
  | k + 1 => yRows us p k ++ [yRow (uAt us k) (lAt p k)]
theorem yRows_mem (us : List Value) (p : Lgl) : ∀ k j, j < k → yRow (uAt us j) (lAt p j) ∈ yRows us p k
  | k + 1, j, h => by
    show _ ∈ yRows us p k ++ [yRow (uAt us k) (lAt p k)]
    by_cases e : j = k
    · subst e; simp
    · exact List.mem_append_left _ (yRows_mem us p k j (by omega))
theorem yRows_us {us us' : List Value} {p p' : Lgl} : ∀ k, (∀ j, j < k → uAt us j = uAt us' j ∧ lAt p j = lAt p' j) → yRows us p k = yRows us' p' k
  | 0, _ => rfl
  | k + 1, h => by
    show yRows us p k ++ [yRow (uAt us k) (lAt p k)] = yRows us' p' k ++ [yRow (uAt us' k) (lAt p' k)]
    rw [yRows_us k (fun j hj => h j (by omega)), (h k (by omega)).1, (h k (by omega)).2]
theorem yRows_snoc {us : List Value} {p : Lgl} (v : Value) : yRows (us ++ [v]) p (us.length + 1) = yRows us p us.length ++ [yRow v (lAt p us.length)] := by
  show yRows (us ++ [v]) p us.length ++ [yRow (uAt (us ++ [v]) us.length) (lAt p us.length)] = _
  rw [uAt_last, yRows_us (us := us ++ [v]) (us' := us) (p := p) (p' := p) us.length (fun j hj => ⟨uAt_app hj, rfl⟩)]
theorem own_lgs {lo hi : Nat} {w : World} {v : Value} {us : List Value} {p : Lgl} (h : Own lo hi w ([lRow v us] ++ yRows us p p.length)) (hl : us.length = p.length) : Lgs w v p := by
  have h0 := h.own (lRow v us) (by simp)
  have h1 : w.ownsRow lo 27 1 v us.length us := h0
  rcases h1.2 with ⟨rfl, hn⟩ | ⟨g, cap, cur, rfl, hB, hg, _⟩
  · left
    exact ⟨List.eq_nil_of_length_eq_zero (by omega), none, 0, rfl⟩
  · right
    refine ⟨g, 0, cap, by rw [hl], (Array.getElem?_eq_some_iff.1 hg).1, fun j hj => ?_⟩
    have hr := h.own _ (List.mem_append_right _ (yRows_mem us p p.length j hj))
    have hr : w.ownsRow lo 5 1 (uAt us j) (lAt p j).length ((lAt p j).map (Value.int .u8)) := hr
    refine ⟨uAt us j, ?_, own_ints hr⟩
    rw [Nat.zero_add]
    have := h1.cellAt j (by omega)
    rw [this]
    unfold uAt
    rw [List.getD_eq_getElem?_getD, List.getElem?_eq_getElem (by omega)]
    rfl
end U
end Go.Proofs.Ytcdodpcdennemaa
