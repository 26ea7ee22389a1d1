/- What is cut out of slots, by the program; CutSlots. -/
import Derived.Test.YthmnjojjnlnbjaaSl9
import Derived.Test.YthmnjojjnlnbjaaSl4
import Derived.Test.YthmnjojjnlnbjaaSlR
namespace Go.Proofs.Ythmnjojjnlnbjaa
open Go.RowKit
namespace U
/-- The answer of a function that hands back a code and slots of its own. -/
def SlotsAns (w : World) (code : Int) (l : Prl) (e : Ending) (w' : World) : Prop :=
  Below w.heap.size w w' ∧ ∃ v, e = .returned (.agg #[.int .i64 code, v]) ∧ w'.ownsRow w.heap.size 112 2 v l.length ((fl l).map (Value.int .i64))
theorem SlotsAns.use {w w' : World} {code : Int} {l : Prl} {e : Ending} (h : SlotsAns w code l e w') : ∃ a c, e = .returned (.agg #[.int .i64 code, .slice a l.length c]) ∧ Below w.heap.size w w' ∧ w'.ownsRow w.heap.size 112 2 (.slice a l.length c) l.length ((fl l).map (Value.int .i64)) := by
  obtain ⟨hb, v, rfl, ho⟩ := h
  obtain ⟨a, c, rfl⟩ := own_shape2 ho
  exact ⟨a, c, rfl, hb, ho⟩
/-- A slice value as it may be: no more in it than it has room for; without an address there is no room. -/
def Okv (v : Value) : Prop := ∀ a n c, v = .slice a n c → n ≤ c ∧ (a = none → c = 0)
theorem own_okv {w : World} {B : Nat} {e : TypeId} {v : Value} {m : Nat} {xs : List Value} (h : w.ownsRow B e 2 v m xs) : Okv v := by
  intro a n c hv
  subst hv
  rcases h.2 with ⟨h1, _⟩ | ⟨g, cap, cur, h1, _, _, hc, _⟩
  · cases h1; exact ⟨by omega, fun _ => rfl⟩
  · cases h1; exact ⟨hc, fun h => by cases h⟩
/-- Slots between two keys: it shares memory with the list. -/
theorem prs_part {w : World} {b off n c i j : Nat} {l : Prl} (hn : n = l.length) (hb : b < w.heap.size) (hij : i ≤ j) (hj : j ≤ n)
    (hc : ∀ j, j < n → w.cell? ⟨b, off + j * 2, none⟩ = some (.int .i64 (pAt l j).1) ∧ w.cell? ⟨b, off + j * 2 + 1, none⟩ = some (.int .i64 (pAt l j).2)) :
    Prs w (.slice (some ⟨b, off + i * 2, none⟩) (j - i) c) ((l.take j).drop i) := by
  right
  have hl : ((l.take j).drop i).length = j - i := by rw [List.length_drop, List.length_take]; omega
  refine ⟨b, off + i * 2, c, by rw [hl], hb, fun k hk => ?_⟩
  rw [hl] at hk
  have h1 := hc (i + k) (by omega)
  have e : pAt ((l.take j).drop i) k = pAt l (i + k) := by
    unfold pAt
    rw [List.getD_eq_getElem?_getD, List.getD_eq_getElem?_getD, List.getElem?_drop, List.getElem?_take, if_pos (by omega)]
  rw [e, show off + i * 2 + k * 2 = off + (i + k) * 2 by omega]
  exact h1
/-- The code and the slots that are cut out. -/
def cutB (a b : Int) : Bool := inB a 0 256 && inB b a 256
def csC (l : Prl) (a b : Int) : Int := if slF l = 0 then (if cutB a b = true then 0 else 3) else slF l
def csL (l : Prl) (a b : Int) : Prl := if slF l = 0 ∧ cutB a b = true then cut l a b else []
theorem csL_len (l : Prl) (a b : Int) : (csL l a b).length ≤ l.length := by
  unfold csL
  split
  · exact cut_len _ _ _
  · simp
theorem pair_cells {w : World} {g : Nat} {x y : Value} {t : TypeId} : w.heap[g]? = some (.cells #[x, y] t) → w.cell? ⟨g, 0, none⟩ = some x ∧ w.cell? ⟨g, 1, none⟩ = some y ∧ w.frozen? ⟨g, 0, none⟩ = false ∧ w.frozen? ⟨g, 1, none⟩ = false := two_cellsV
theorem prs_news {w : World} {ad : Addr} {m c : Nat} {l : Prl} (h : Prs w (.slice (some ad) m c) l) : ∀ j u, ((fl l).map (Value.int .i64))[j]? = some u → w.cell? (ad.add j) = some u := by
  intro j u hu
  have hj : j < l.length * 2 := by
    have := (List.getElem?_eq_some_iff.1 hu).1
    rwa [List.length_map, fl_len] at this
  obtain ⟨_, b, off, e, hb, hc⟩ := h.at (by omega)
  cases e
  have h1 := hc (j / 2) (by omega)
  have h2 := fl_at l (j / 2) (by omega)
  rw [List.getElem?_map] at hu
  rw [Go.WideShapes.add_plain]
  rcases (by omega : j = j / 2 * 2 ∨ j = j / 2 * 2 + 1) with e | e
  · rw [e, h2.1] at hu
    rw [show off + j = off + j / 2 * 2 by omega, h1.1]
    exact hu
  · rw [e, h2.2] at hu
    rw [show off + j = off + j / 2 * 2 + 1 by omega, h1.2]
    exact hu
end U
end Go.Proofs.Ythmnjojjnlnbjaa
