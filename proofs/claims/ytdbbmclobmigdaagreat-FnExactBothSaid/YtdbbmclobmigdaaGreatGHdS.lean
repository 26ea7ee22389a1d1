/- Heads in a row: how they read; the fault of a chain, as mathematics. -/
import Derived.Test.YtdbbmclobmigdaaGreatGSC
namespace Go.Proofs.YtdbbmclobmigdaaGreat
open Go.RowKit
namespace U
/-- A slice value reads as a list of heads. -/
def Hds (w : World) (v : Value) (l : Hdl) : Prop :=
  (l = [] ∧ ∃ a c, v = .slice a 0 c) ∨ ∃ b off c, v = .slice (some ⟨b, off, none⟩) l.length c ∧ b < w.heap.size ∧ ∀ j, j < l.length → HdS w b (off + j * 5) (hAt l j)
theorem Hds.below {w w' : World} {v : Value} {l : Hdl} (h : Hds w v l) (hb : Below w.heap.size w w') : Hds w' v l := by
  rcases h with h | ⟨b, off, c, rfl, hlt, hc⟩
  · exact Or.inl h
  · exact Or.inr ⟨b, off, c, rfl, Nat.lt_of_lt_of_le hlt hb.size, fun j hj => (hc j hj).below hb hlt⟩
theorem Hds.shape {w : World} {v : Value} {l : Hdl} (h : Hds w v l) : ∃ a c, v = .slice a l.length c := by
  rcases h with ⟨rfl, a, c, rfl⟩ | ⟨b, off, c, rfl, _⟩
  · exact ⟨a, c, rfl⟩
  · exact ⟨_, c, rfl⟩
theorem Hds.at {w : World} {a : Option Addr} {n c : Nat} {l : Hdl} (h : Hds w (.slice a n c) l) (h0 : 0 < l.length) : n = l.length ∧ ∃ b off, a = some ⟨b, off, none⟩ ∧ b < w.heap.size ∧ ∀ j, j < l.length → HdS w b (off + j * 5) (hAt l j) := by
  rcases h with ⟨rfl, _⟩ | ⟨b, off, c', e, h1, h2⟩
  · simp at h0
  · cases e
    exact ⟨rfl, b, off, rfl, h1, h2⟩
theorem Hds.nil (w : World) (a : Option Addr) (c : Nat) : Hds w (.slice a 0 c) [] := Or.inl ⟨rfl, a, c, rfl⟩
/-- The cells of heads. -/
def flH (l : Hdl) : List Value := l.flatMap fun r => [.int .i64 r.e, .int .i64 r.p, .int .i64 r.o, .int .i64 r.n, .int .i64 r.v]
theorem flH_len (l : Hdl) : (flH l).length = l.length * 5 := by
  unfold flH
  induction l with
  | nil => rfl
  | cons p t ih => rw [List.flatMap_cons, List.length_append, ih]; simp; omega
theorem flH_app (l m : Hdl) : flH (l ++ m) = flH l ++ flH m := by unfold flH; rw [List.flatMap_append]
theorem flH_at (l : Hdl) : ∀ (j : Nat), j < l.length → (flH l)[j * 5]? = some (.int .i64 (hAt l j).e) ∧ (flH l)[j * 5 + 1]? = some (.int .i64 (hAt l j).p) ∧ (flH l)[j * 5 + 2]? = some (.int .i64 (hAt l j).o) ∧ (flH l)[j * 5 + 3]? = some (.int .i64 (hAt l j).n) ∧ (flH l)[j * 5 + 4]? = some (.int .i64 (hAt l j).v) := by
  induction l with
  | nil => intro j h; simp at h
  | cons p t ih =>
    intro j h
    unfold flH
    rw [List.flatMap_cons]
    cases j with
    | zero => simp [hAt]
    | succ j =>
      have := ih j (by simpa using h)
      unfold flH at this
      rw [show (j + 1) * 5 = j * 5 + 1 + 1 + 1 + 1 + 1 by omega]
      simpa [hAt] using this
/-- A row of one's own reads as a list of heads. -/
theorem own_hds {w : World} {B : Nat} {e : TypeId} {v : Value} {l : Hdl} (h : w.ownsRow B e 5 v l.length (flH l)) : Hds w v l := by
  rcases h.2 with ⟨rfl, hn⟩ | ⟨g, cap, cur, rfl, hB, hg, hc, hm, _⟩
  · have : l = [] := List.eq_nil_of_length_eq_zero hn
    subst this
    exact Hds.nil _ _ _
  · refine Or.inr ⟨g, 0, cap, rfl, (Array.getElem?_eq_some_iff.1 hg).1, fun j hj => ?_⟩
    have h5 := flH_at l j hj
    have q := fun i (hi : i < l.length * 5) => h.cellAt i (by omega)
    refine ⟨?_, ?_, ?_, ?_, ?_⟩
    · rw [Nat.zero_add, q _ (by omega)]; exact h5.1
    · rw [Nat.zero_add, q _ (by omega)]; exact h5.2.1
    · rw [Nat.zero_add, q _ (by omega)]; exact h5.2.2.1
    · rw [Nat.zero_add, q _ (by omega)]; exact h5.2.2.2.1
    · rw [Nat.zero_add, q _ (by omega)]; exact h5.2.2.2.2
theorem own_hds' {w : World} {B n : Nat} {e : TypeId} {v : Value} {l : Hdl} (hn : n = l.length) (h : w.ownsRow B e 5 v n (flH l)) : Hds w v l := by subst hn; exact own_hds h
/-- Its fault, its sum. -/
def Hd.c (h : Hd) : Int := hdC h.e h.p h.o h.n h.v
def Hd.s (h : Hd) : Int := hdS h.e h.p h.o h.n h.v
/-- The phase and the sum ahead of a place. -/
def phA (l : Hdl) : Nat → Int
  | 0 => 1
  | j + 1 => (hAt l j).p
def smA (l : Hdl) : Nat → Int
  | 0 => 0
  | j + 1 => (hAt l j).s
/-- Whether a head fits behind a phase and a sum, at a place. -/
def lnk (h : Hd) (e ph s : Int) : Int := if h.e = e then (if h.v = s then (if folB ph h.p = true then 0 else 10) else 9) else 1
theorem lnk_e {h : Hd} {e ph s : Int} (h1 : ¬ h.e = e) : lnk h e ph s = 1 := if_neg h1
theorem lnk_v {h : Hd} {e ph s : Int} (h1 : h.e = e) (h2 : ¬ h.v = s) : lnk h e ph s = 9 := by unfold lnk; rw [if_pos h1, if_neg h2]
theorem lnk_p {h : Hd} {e ph s : Int} (h1 : h.e = e) (h2 : h.v = s) (h3 : folB ph h.p = false) : lnk h e ph s = 10 := by unfold lnk; rw [if_pos h1, if_pos h2, h3]; rfl
theorem lnk_ok {h : Hd} {e ph s : Int} (h1 : h.e = e) (h2 : h.v = s) (h3 : folB ph h.p = true) : lnk h e ph s = 0 := by unfold lnk; rw [if_pos h1, if_pos h2, h3]; rfl
def lnkA (l : Hdl) (i : Nat) : Int := lnk (hAt l i) ((i : Int) + 1) (phA l i) (smA l i)
/-- The fault of the heads from a place on. -/
def scanH (l : Hdl) : Nat → Nat → Int
  | 0, _ => 0
  | f + 1, i => if (hAt l i).c = 0 then (if lnkA l i = 0 then scanH l f (i + 1) else lnkA l i) else (hAt l i).c
theorem scanH_fault {l : Hdl} {f i : Nat} (h : ¬ (hAt l i).c = 0) : scanH l (f + 1) i = (hAt l i).c := by rw [scanH, if_neg h]
theorem scanH_link {l : Hdl} {f i : Nat} (h : (hAt l i).c = 0) (h1 : ¬ lnkA l i = 0) : scanH l (f + 1) i = lnkA l i := by rw [scanH, if_pos h, if_neg h1]
theorem scanH_step {l : Hdl} {f i : Nat} (h : (hAt l i).c = 0) (h1 : lnkA l i = 0) : scanH l (f + 1) i = scanH l f (i + 1) := by rw [scanH, if_pos h, if_pos h1]
/-- The fault of a chain. -/
def chF (l : Hdl) : Int := if 10 < l.length then 2 else scanH l l.length 0
theorem chF_many {l : Hdl} (h : 10 < l.length) : chF l = 2 := if_pos h
theorem chF_scan {l : Hdl} (h : ¬ 10 < l.length) : chF l = scanH l l.length 0 := if_neg h
end U
end Go.Proofs.YtdbbmclobmigdaaGreat
