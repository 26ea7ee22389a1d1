/- Records by their keys, in a map: what the map's block is good for. -/
import Derived.Test.YtbjdplipgghndaaGreatDr1
import Derived.Maps.OwnSet
import Derived.Maps.Ext
namespace Go.Proofs.YtbjdplipgghndaaGreat
open Go.RowKit Go.Maps
namespace U
/-- How a record reads. -/
def recD (r : Rc) : DataW Unit := .agg [.lit (.string r.l.data.toList), .lit (.int .i64 r.v), .lit (.int .i64 r.o), .lit (.int .i64 r.p)]
theorem recD_inj {r s : Rc} (h : recD r = recD s) : r = s := by
  obtain ⟨⟨l⟩, v, o, p⟩ := r
  obtain ⟨⟨l'⟩, v', o', p'⟩ := s
  unfold recD at h
  simp at h
  obtain ⟨h1, rfl, rfl, rfl⟩ := h
  have : l = l' := by cases l; cases l'; simp_all
  rw [this]
/-- How an element of the map reads. -/
def recE (v : Value) : Option (DataW Unit × List MemPlace) :=
  match v with
  | .agg cs => (match cs.toList with
    | [.string l, .int .i64 a, .int .i64 b, .int .i64 c] => some (recD ⟨l, a, b, c⟩, [])
    | _ => none)
  | _ => none
def Rc.val (r : Rc) : Value := .agg #[.string r.l, .int .i64 r.v, .int .i64 r.o, .int .i64 r.p]
theorem recE_mk (r : Rc) : recE r.val = some (recD r, []) := rfl
theorem recE_inv {v : Value} {z : DataW Unit × List MemPlace} (h : recE v = some z) : ∃ r : Rc, v = r.val ∧ z = (recD r, []) := by
  unfold recE at h
  split at h
  · rename_i cs
    split at h
    · rename_i l a b c e
      cases h
      refine ⟨⟨l, a, b, c⟩, ?_, rfl⟩
      show Value.agg cs = Value.agg #[.string l, .int .i64 a, .int .i64 b, .int .i64 c]
      congr 1
      exact Array.ext' e
    · cases h
  · cases h
theorem Tryz.mapK : Keyed Tryz.prog 2 := int_keyed Tryz.underlying2
theorem Tryz.zeroRc (w : World) : (zeroValue 56).run Tryz.prog w = .ok rcZ.val w := by kernel_rfl
theorem key_lit {x : Int} (h : 0 ≤ x ∧ x < 256) : keyOf Tryz.prog 2 (.int .i64 x) = some (.int .i64 x) := keyOf_int_mk Tryz.underlying2 (WalkArith.wf_i64 (by omega))
/-- A block that is a map of records by key. -/
structure MpAt (w : World) (b n : Nat) (g : Int → Option Rc) : Prop where
  ex : ∃ D : DataW Unit, w.ownsMap Tryz.prog 2 recE b n D ∧ (∀ x, has D (.int .i64 x) = (g x).isSome) ∧ ∀ x r, g x = some r → ∀ z, D.atKey (.int .i64 x) z = recD r
theorem MpAt.lt {w : World} {b n : Nat} {g : Int → Option Rc} (h : MpAt w b n g) : b < w.heap.size := by
  obtain ⟨D, h1, -, -⟩ := h.ex
  exact h1.lt
theorem MpAt.kept {w w' : World} {b n : Nat} {g : Int → Option Rc} {row : Option Nat} (h : MpAt w b n g) (hg : w.grownBy w' row) (hne : some b ≠ row) : MpAt w' b n g := by
  obtain ⟨D, h1, h2, h3⟩ := h.ex
  exact ⟨D, h1.kept hg hne, h2, h3⟩
theorem MpAt.below {w w' : World} {b n N : Nat} {g : Int → Option Rc} (h : MpAt w b n g) (hb : Below N w w') (hlt : b < N) : MpAt w' b n g := by
  obtain ⟨D, ⟨es, clock, e1, e2⟩, h2, h3⟩ := h.ex
  exact ⟨D, ⟨es, clock, (hb.block b hlt).trans e1, e2⟩, h2, h3⟩
theorem MpAt.made (w : World) : MpAt (w.alloc (.map #[] 0)) w.heap.size 0 (fun _ => none) :=
  ⟨.map [], World.ownsMap_made w Tryz.prog 2 recE, fun _ => rfl, fun _ _ h => by cases h⟩
/-- What is found at a key, or nothing. -/
def valO (o : Option Rc) : Value := (o.getD rcZ).val
theorem MpAt.look {w : World} {b n : Nat} {g : Int → Option Rc} (h : MpAt w b n g) {x : Int} (hx : 0 ≤ x ∧ x < 256) :
    (Instr.lookup 142 (.map (some b)) (.int .i64 x) true).run Tryz.prog w = .ok (.tuple #[valO (g x), .bool (g x).isSome]) w := by
  obtain ⟨D, h1, h2, h3⟩ := h.ex
  obtain ⟨v, ps, hrun, hv⟩ := h1.look_ok Tryz.mapK Tryz.underlying142 (Tryz.zeroRc w) (recE_mk rcZ) (key_lit hx)
  rw [hrun, h2]
  obtain ⟨r, rfl, hr⟩ := recE_inv hv
  have hd : D.atKey (.int .i64 x) (recD rcZ) = recD r := congrArg Prod.fst hr
  rcases hg : g x with _ | s
  · have hn : has D (.int .i64 x) = false := by rw [h2, hg]; rfl
    rw [atKey_of_not_has hn] at hd
    rw [← recD_inj hd]
    rfl
  · rw [h3 x s hg] at hd
    rw [← recD_inj hd]
    rfl
theorem lit_ne {x y : Int} (h : x ≠ y) : (Lit.int .i64 x) ≠ (Lit.int .i64 y) := fun e => h (by cases e; rfl)
theorem key_is (x : Int) : WideAt.IsKeyLit (Lit.int .i64 x) := trivial
theorem MpAt.store {w : World} {b n : Nat} {g : Int → Option Rc} (h : MpAt w b n g) (hn : n < maxLen) {x : Int} (hx : 0 ≤ x ∧ x < 256) (r : Rc) :
    ∃ w', (Instr.mapUpdate 142 (.map (some b)) (.int .i64 x) r.val).run Tryz.prog w = .ok () w' ∧ MpAt w' b (n + 1) (fun y => if y = x then some r else g y) ∧ w.grownBy w' (some b) := by
  obtain ⟨D, h1, h2, h3⟩ := h.ex
  obtain ⟨w', hrun, ho, hg⟩ := h1.update Tryz.mapK Tryz.underlying142 hn (key_lit hx) (recE_mk r)
  refine ⟨w', hrun, ⟨_, ho, fun y => ?_, fun y s hs z => ?_⟩, hg⟩
  · by_cases e : y = x
    · subst e
      rw [if_pos rfl, has_put_same h1.isMap (key_is _)]
      rfl
    · rw [if_neg e, has_put_other (lit_ne e), h2]
  · by_cases e : y = x
    · subst e
      rw [if_pos rfl] at hs
      cases hs
      exact atKey_put_same h1.isMap (key_is _) _ _
    · rw [if_neg e] at hs
      rw [atKey_put_other (lit_ne e)]
      exact h3 y s hs z
/-- A store into the map, where it stands among operations. -/
theorem step_store {w : World} {ops : Array Oper} {o : Oper} {a : Act} {K : Act → World → Prop} {Q : Exit → Act → World → Prop} {E : Prop} (hgd : o.guard = none) (m x v : Operand)
    (hop : o.op = Op.mapUpdate 142 m x v) (b n : Nat) (g : Int → Option Rc) (hm : a.eval m = .map (some b)) (hM : MpAt w b n g) (hn : n < maxLen) (k : Int) (r : Rc) (hk : 0 ≤ k ∧ k < 256) (hx : a.eval x = .int .i64 k) (hv : a.eval v = r.val)
    (h : ∀ w', MpAt w' b (n + 1) (fun y => if y = k then some r else g y) → w.grownBy w' (some b) → K (a.put o.dst undef) w') :
    if Region.wanted o (yielded ops a.tmps) = true then Oper.wp Tryz.prog o a w K Q else E := by
  have hw : Region.wanted o (yielded ops a.tmps) = true := by simp [Region.wanted, hgd]
  rw [if_pos hw]
  obtain ⟨w', hrun, h1, h2⟩ := hM.store hn hk r
  unfold Oper.wp
  simp [execOp, hop, hm, hx, hv, hrun, Result.andThen]
  exact h w' h1 h2
/-- The records by key, of the first ones. -/
def mapTo (l : Rcl) : Nat → Int → Option Rc
  | 0 => fun _ => none
  | k + 1 => fun y => if y = (rAt l k).k then some (rAt l k) else mapTo l k y
/-- The place of a key, from a place on. -/
def atK (l : Rcl) (key : Int) : Nat → Nat → Int
  | 0, _ => -1
  | f + 1, i => if (rAt l i).k = key then (i : Int) else atK l key f (i + 1)
def atI (l : Rcl) (key : Int) : Int := atK l key l.length 0
theorem atK_hit {l : Rcl} {key : Int} {f i : Nat} (h : (rAt l i).k = key) : atK l key (f + 1) i = i := by rw [atK, if_pos h]
theorem atK_miss {l : Rcl} {key : Int} {f i : Nat} (h : ¬ (rAt l i).k = key) : atK l key (f + 1) i = atK l key f (i + 1) := by rw [atK, if_neg h]
theorem atK_cases (l : Rcl) (key : Int) : ∀ f i, (atK l key f i = -1 ∧ ∀ j, i ≤ j → j < i + f → ¬ (rAt l j).k = key) ∨ ∃ j, i ≤ j ∧ j < i + f ∧ (rAt l j).k = key ∧ atK l key f i = j
  | 0, i => Or.inl ⟨rfl, fun j h1 h2 => by omega⟩
  | f + 1, i => by
    by_cases h : (rAt l i).k = key
    · exact Or.inr ⟨i, Nat.le_refl _, by omega, h, atK_hit h⟩
    · rw [atK_miss h]
      rcases atK_cases l key f (i + 1) with ⟨h1, h2⟩ | ⟨j, h1, h2, h3, h4⟩
      · refine Or.inl ⟨h1, fun j h3 h4 => ?_⟩
        by_cases e : j = i
        · subst e; exact h
        · exact h2 j (by omega) (by omega)
      · exact Or.inr ⟨j, by omega, by omega, h3, h4⟩
theorem atI_cases (l : Rcl) (key : Int) : (atI l key = -1 ∧ ∀ j, j < l.length → ¬ (rAt l j).k = key) ∨ ∃ j, j < l.length ∧ (rAt l j).k = key ∧ atI l key = j := by
  rcases atK_cases l key l.length 0 with ⟨h1, h2⟩ | ⟨j, -, h2, h3, h4⟩
  · exact Or.inl ⟨h1, fun j hj => h2 j (Nat.zero_le _) (by omega)⟩
  · exact Or.inr ⟨j, by omega, h3, h4⟩
theorem mapTo_none {l : Rcl} {x : Int} : ∀ k, (∀ j, j < k → ¬ (rAt l j).k = x) → mapTo l k x = none
  | 0, _ => rfl
  | k + 1, h => by
    show (if x = (rAt l k).k then some (rAt l k) else mapTo l k x) = none
    rw [if_neg (fun e => h k (by omega) e.symm)]
    exact mapTo_none k (fun j hj => h j (by omega))
theorem mapTo_some {l : Rcl} {x : Int} {j : Nat} (hx : (rAt l j).k = x) : ∀ k, j < k → (∀ i, i < k → (rAt l i).k = x → i = j) → mapTo l k x = some (rAt l j)
  | 0, h, _ => by omega
  | k + 1, h, hu => by
    show (if x = (rAt l k).k then some (rAt l k) else mapTo l k x) = some (rAt l j)
    by_cases e : x = (rAt l k).k
    · rw [if_pos e, hu k (by omega) e.symm]
    · rw [if_neg e]
      have hjk : j ≠ k := fun e2 => e (by rw [← e2, hx])
      exact mapTo_some hx k (by omega) (fun i hi => hu i (by omega))
theorem DirOk.one {l : Rcl} (h : DirOk l) {i j : Nat} (hi : i < l.length) (hj : j < l.length) (e : (rAt l i).k = (rAt l j).k) : i = j := by
  rcases Nat.lt_trichotomy i j with h1 | h1 | h1
  · have := h.rise j hj i h1; omega
  · exact h1
  · have := h.rise i hi j h1; omega
/-- What the map has at a key is what stands there. -/
theorem mapTo_all {l : Rcl} (h : DirOk l) (x : Int) : (atI l x = -1 ∧ mapTo l l.length x = none) ∨ ∃ j, j < l.length ∧ atI l x = j ∧ mapTo l l.length x = some (rAt l j) ∧ (rAt l j).k = x := by
  rcases atI_cases l x with ⟨h1, h2⟩ | ⟨j, h1, h2, h3⟩
  · exact Or.inl ⟨h1, mapTo_none _ h2⟩
  · exact Or.inr ⟨j, h1, h3, mapTo_some h2 _ h1 (fun i hi e => h.one hi h1 (by rw [e, h2])), h2⟩
end U
end Go.Proofs.YtbjdplipgghndaaGreat
