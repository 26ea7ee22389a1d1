/- What is summed along a trail, from the leaf up, as the program tells it. -/
import Derived.Test.YtljbcpkjhnbpeaaNpT
import Derived.Test.YtljbcpkjhnbpeaaNp6
import Derived.Test.YtljbcpkjhnbpeaaNp9
import Derived.Test.YtljbcpkjhnbpeaaRnd
import Derived.Test.YtljbcpkjhnbpeaaOwn
namespace Go.Proofs.Ytljbcpkjhnbpeaa
open Go.RowKit Go.Shelf
namespace U
attribute [local go_sem] Oper.semAt_some
theorem Try.infoBs : (Try.prog.info? 22).map (fun i => (i.zero, i.size, i.bytes)) = some (some (.slice none 0 0), 1, 24) := by kernel_rfl
/-- A fork in range. -/
abbrev Fp := { p : Int × Int // fkB p = true }
def gP (f : Prl) (j : Nat) : Int × Fp := (ahd f j, if h : fkB (pAt f j) = true then ⟨pAt f j, h⟩ else ⟨(0, 0), rfl⟩)
theorem gP_at {f : Prl} {m j : Nat} (h : fkS f m = 0) (hj : j < m) : (gP f j).1 = ahd f j ∧ (gP f j).2.1 = pAt f j := by
  have h1 := (fkS_at h hj).1
  refine ⟨rfl, ?_⟩
  unfold gP
  rw [dif_pos h1]
/-- The pieces so far, and the last one. -/
def pzs (key : Int) (lf : List Int) (pre : List (Int × Fp)) : List (List Int) × List Int :=
  pre.foldl (fun st x => (st.1 ++ [tagL 5 (ndL key x.2.1.1 x.2.1.2 (sumL st.2))], tagL 5 (ndL key x.2.1.1 x.2.1.2 (sumL st.2)))) ([lf], lf)
theorem pzs_snoc (key : Int) (lf : List Int) (pre : List (Int × Fp)) (x : Int × Fp) : pzs key lf (pre ++ [x]) = ((pzs key lf pre).1 ++ [tagL 5 (ndL key x.2.1.1 x.2.1.2 (sumL (pzs key lf pre).2))], tagL 5 (ndL key x.2.1.1 x.2.1.2 (sumL (pzs key lf pre).2))) := by unfold pzs; rw [List.foldl_append]; rfl
/-- The piece at a place of a trail. -/
def pcL (key : Int) (f : Prl) (lf : List Int) : Nat → List Int
  | 0 => lf
  | j + 1 => tagL 5 (ndL key (pAt f j).1 (pAt f j).2 (clmN key f (sumL lf) j))
theorem pcL_sum (key : Int) (f : Prl) (lf : List Int) : ∀ j, sumL (pcL key f lf j) = clmN key f (sumL lf) j
  | 0 => rfl
  | _ + 1 => rfl
theorem pzs_up {key : Int} {lf : List Int} {f : Prl} {m : Nat} (h : fkS f m = 0) : ∀ j, j ≤ m → pzs key lf (upTo (gP f) j) = ((List.range (j + 1)).map (pcL key f lf), pcL key f lf j)
  | 0, _ => rfl
  | j + 1, hj => by
    rw [upTo_succ, pzs_snoc, pzs_up h j (by omega), (gP_at h hj).2, pcL_sum]
    refine Prod.ext ?_ rfl
    rw [List.range_succ (n := j + 1), List.map_append]
    rfl
theorem pzs_len (key : Int) (lf : List Int) (pre : List (Int × Fp)) : (pzs key lf pre).1.length = pre.length + 1 := by
  have h : ∀ (pre : List (Int × Fp)) (st : List (List Int) × List Int), (pre.foldl (fun st x => (st.1 ++ [tagL 5 (ndL key x.2.1.1 x.2.1.2 (sumL st.2))], tagL 5 (ndL key x.2.1.1 x.2.1.2 (sumL st.2)))) st).1.length = st.1.length + pre.length := by
    intro pre
    induction pre with
    | nil => intro st; rfl
    | cons x pre ih =>
      intro st
      rw [List.foldl_cons, ih]
      simp only [List.length_append, List.length_cons, List.length_nil]
      omega
  unfold pzs
  rw [h]
  simp only [List.length_cons, List.length_nil]
  omega
theorem pzs_ok {key : Int} {lf : List Int} (hb : Bts lf) (hn : lf.length ≤ 16) (pre : List (Int × Fp)) : Bts (pzs key lf pre).2 ∧ (pzs key lf pre).2.length ≤ 16 := by
  rcases List.eq_nil_or_concat pre with rfl | ⟨q, x, rfl⟩
  · exact ⟨hb, hn⟩
  · rw [List.concat_eq_append, pzs_snoc]
    have hx := fkB_bd x.2.2
    exact ⟨tagL_bts (by omega) (ndL_ok hx.1 hx.2 (sumL_bd _)), by rw [tagL_len, ndL_len]; omega⟩
/-- Pieces as they lie in memory. -/
structure PcRows (W : World) (B : Nat) (us : List Value) (ps : List (List Int)) : Prop where
  n : us.length = ps.length
  r : ∀ (j : Nat) (u : Value) (ys : List Int), us[j]? = some u → ps[j]? = some ys → W.ownsRow B 5 1 u ys.length (ys.map (Value.int .u8))
theorem PcRows.below {W W' : World} {B : Nat} {us : List Value} {ps : List (List Int)} (h : PcRows W B us ps) (hb : Below W.heap.size W W') : PcRows W' B us ps := ⟨h.n, fun j u ys h1 h2 => own_below (h.r j u ys h1 h2) hb⟩
theorem PcRows.mono {W : World} {B B' : Nat} {us : List Value} {ps : List (List Int)} (h : PcRows W B' us ps) (hB : B ≤ B') : PcRows W B us ps := ⟨h.n, fun j u ys h1 h2 => own_mono (h.r j u ys h1 h2) hB⟩
theorem own_type {w : World} {B n size : Nat} {e : TypeId} {v : Value} {xs : List Value} {g : Nat} (h : w.ownsRow B e size v n xs) (hg : v.ownBlock = some g) : ∃ cur, w.heap[g]? = some (.cells cur e) := by
  rcases h.2 with ⟨rfl, _⟩ | ⟨g', cap, cur, rfl, _, h4, _⟩
  · simp [Value.ownBlock] at hg
  · have : g' = g := by simpa [Value.ownBlock] using hg
    subst this
    exact ⟨cur, h4⟩
/-- A row stands where a block of another type, or none that has cells, has turned. -/
theorem own_aside {w w' : World} {B n size : Nat} {e : TypeId} {v : Value} {xs : List Value} {row : Option Nat} (h : w.ownsRow B e size v n xs) (hg : w.grownBy w' row) (hr : ∀ (b : Nat) (cur : Array Value), row = some b → w.heap[b]? ≠ some (.cells cur e)) : w'.ownsRow B e size v n xs := by
  refine own_grown h hg ?_
  rcases hk : v.ownBlock with _ | g
  · exact Or.inl rfl
  · right
    intro e'
    obtain ⟨cur, hc⟩ := own_type h hk
    exact hr g cur e'.symm hc
theorem PcRows.aside {W W' : World} {B : Nat} {us : List Value} {ps : List (List Int)} {row : Option Nat} (h : PcRows W B us ps) (hg : W.grownBy W' row) (hr : ∀ (b : Nat) (cur : Array Value), row = some b → W.heap[b]? ≠ some (.cells cur 5)) : PcRows W' B us ps := ⟨h.n, fun j u ys h1 h2 => own_aside (h.r j u ys h1 h2) hg hr⟩
theorem not_type {W : World} {b : Nat} {cs cur : Array Value} {t e : TypeId} (h : W.heap[b]? = some (.cells cs t)) (ht : t ≠ e) : W.heap[b]? ≠ some (.cells cur e) := by
  rw [h]
  simp
  exact fun _ => ht
theorem not_cells {W : World} {row : Option Nat} {B : Nat} (hr : ∀ r, row = some r → B ≤ r ∧ ∃ o : Obj, W.heap[r]? = some o ∧ o.isCells = false) {e : TypeId} : ∀ (b : Nat) (cur : Array Value), row = some b → W.heap[b]? ≠ some (.cells cur e) := by
  intro b cur hb h
  obtain ⟨-, o, ho, hn⟩ := hr b hb
  rw [h] at ho
  cases ho
  simp [Obj.isCells] at hn
theorem own_one (w : World) (B : Nat) (e : TypeId) (u : Value) (hb : B ≤ w.heap.size) : (w.alloc (.cells #[u] e)).ownsRow B e 1 (.slice (some ⟨w.heap.size, 0, none⟩) 1 1) 1 [u] :=
  ⟨by simp, .inr ⟨w.heap.size, 1, #[u], rfl, hb, heap_alloc_new w _, Nat.le_refl _, by unfold maxLen; omega, rfl, by simp⟩⟩
theorem PcRows.snoc {W : World} {B : Nat} {us : List Value} {ps : List (List Int)} {u : Value} {ys : List Int} (h : PcRows W B us ps) (hu : W.ownsRow B 5 1 u ys.length (ys.map (Value.int .u8))) : PcRows W B (us ++ [u]) (ps ++ [ys]) := by
  refine ⟨by simp [h.n], fun j v zs h1 h2 => ?_⟩
  by_cases hj : j < us.length
  · rw [List.getElem?_append_left hj] at h1
    rw [List.getElem?_append_left (by rw [← h.n]; exact hj)] at h2
    exact h.r j v zs h1 h2
  · have hl := (List.getElem?_eq_some_iff.1 h1).1
    have ej : j = us.length := by simp at hl; omega
    subst ej
    rw [List.getElem?_append_right (Nat.le_refl _)] at h1
    rw [h.n, List.getElem?_append_right (Nat.le_refl _)] at h2
    simp at h1 h2
    subst h1 h2
    exact hu
theorem PcRows.one {W : World} {B : Nat} {u : Value} {ys : List Int} (hu : W.ownsRow B 5 1 u ys.length (ys.map (Value.int .u8))) : PcRows W B [u] [ys] := by
  have h := PcRows.snoc (W := W) (B := B) (us := []) (ps := []) ⟨rfl, fun j u ys h => by simp at h⟩ hu
  exact h
/-- What is answered: pieces that are new. -/
structure PcsAns (w : World) (ps : List (List Int)) (e : Ending) (w' : World) : Prop where
  b : Below w.heap.size w w'
  r : ∃ g c us, e = .returned (.slice (some ⟨g, 0, none⟩) ps.length c) ∧ w'.ownsRow w.heap.size 22 1 (.slice (some ⟨g, 0, none⟩) ps.length c) ps.length us ∧ PcRows w' w.heap.size us ps
/-- What holds between two rounds: the last piece, the pieces so far. -/
structure PI (B M N : Nat) (w : World) (key : Int) (lf : List Int) (pre : List (Int × Fp)) (W : World) : Prop where
  x : ∃ a c g cp us, W.heap[B]? = some (.cells #[.slice a (pzs key lf pre).2.length c] 22) ∧ W.heap[B + 1 + 1]? = some (.cells #[.slice (some ⟨g, 0, none⟩) (pre.length + 1) cp] 95) ∧ W.ownsRow (B + 1) 22 1 (.slice (some ⟨g, 0, none⟩) (pre.length + 1) cp) (pre.length + 1) us ∧ W.ownsRow M 5 1 (.slice a (pzs key lf pre).2.length c) (pzs key lf pre).2.length ((pzs key lf pre).2.map (Value.int .u8)) ∧ PcRows W M us (pzs key lf pre).1
  b : Below B w W
  z : N ≤ W.heap.size
theorem PI.own {B M N : Nat} {w : World} {key : Int} {lf : List Int} (hN : B + 1 + 1 < N) (hw : w.heap.size = B) : OwnFrom N (PI B M N w key lf) := by
  rintro pre X Y row ⟨⟨a, c, g, cp, us, h1, h2, h3, h4, h5⟩, hb, hz⟩ hg hr
  have hne : ∀ (b : Nat) (cs : Array Value) (t : TypeId), X.heap[b]? = some (.cells cs t) → some b ≠ row := fun b cs t h e => not_cells hr b cs e.symm h
  exact ⟨⟨a, c, g, cp, us, grown_blk hg h1 (hne _ _ _ h1), grown_blk hg h2 (hne _ _ _ h2), own_aside h3 hg (not_cells hr), own_aside h4 hg (not_cells hr), h5.aside hg (not_cells hr)⟩, hb.grown hg (by rw [← hw]; exact hb.size) (fun k hk => by have := (hr k hk).1; omega), Nat.le_trans hz hg.size⟩
end U
end Go.Proofs.Ytljbcpkjhnbpeaa
