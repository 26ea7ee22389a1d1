/- slices.Backward over forks, as an iterator: from the last one on, for every body that keeps what lay. -/
import Derived.Test.YtljbcpkjhnbpeaaTr9
import Derived.RangeFuncNested
import Derived.RangeFuncBound
import Derived.RangeFuncCalls
import Derived.RangeFuncLeaves
import Derived.Shelf.Abstract
import Derived.Shelf.RegionOpen
import Derived.WalkKit
import Derived.OwnWalkIn
import Derived.TacticsInMore
import Derived.LoopNIn
import Derived.LoopIn
namespace Go.Proofs.Ytljbcpkjhnbpeaa
open Go.RowKit Go.Shelf
namespace U
attribute [local go_sem] Oper.semAt_some
/-- A fork all of whose parts are in range. -/
abbrev Fk := { f : Nat × Tr × Tr // f.1 ≤ 7 ∧ f.2.1.Ok ∧ f.2.2.Ok }
def fk0 : Fk := ⟨(0, .none, .none), by omega, trivial, trivial⟩
def fkV (f : Fk) : Value := .agg #[.int .i64 (f.1.1 : Int), f.1.2.1.val, f.1.2.2.val]
/-- What comes at a round, counted from the end. -/
def bkAt (p : List Fk) (i : Nat) : Nat × Fk := (p.length - 1 - i, p.getD (p.length - 1 - i) fk0)
def bkTo (p : List Fk) (m : Nat) : List (Nat × Fk) := (List.range m).map (bkAt p)
theorem bkTo_succ (p : List Fk) (m : Nat) : bkTo p (m + 1) = bkTo p m ++ [bkAt p m] := by unfold bkTo; rw [List.range_succ, List.map_append]; rfl
theorem bkTo_len (p : List Fk) (m : Nat) : (bkTo p m).length = m := by simp [bkTo]
/-- What a round keeps: all that lies below, and one block. -/
structure KpB (n₀ Bs : Nat) (A B : World) : Prop where
  b : Below n₀ A B
  s : ∀ o, A.heap[Bs]? = some o → B.heap[Bs]? = some o
theorem KpB.refl (n₀ Bs : Nat) (A : World) : KpB n₀ Bs A A := ⟨Below.refl _ _, fun _ h => h⟩
theorem KpB.trans {n₀ Bs : Nat} {A B C : World} (h : KpB n₀ Bs A B) (k : KpB n₀ Bs B C) : KpB n₀ Bs A C := ⟨h.b.trans k.b, fun o ho => k.s o (h.s o ho)⟩
theorem box_cell {w : World} {b : Nat} {v : Value} {t : TypeId} (h : w.heap[b]? = some (.cells #[v] t (0, 0))) : w.cell? ⟨b, 0, none⟩ = some v := by unfold World.cell?; rw [h]; rfl
set_option maxRecDepth 100000 in
set_option maxHeartbeats 2000000 in
theorem backward_in (n : Nat) (hn : 1 ≤ n) (l Bs n₀ b len cap : Nat) (av : Option Addr) (p : List Fk) (HL : Hid (len = p.length)) (hlen : len ≤ 1000) (hb : 0 < len → b < n₀) (hav : 0 < len → av = some ⟨b, 0, none⟩) (J Jx : List (Nat × Fk) → World → Prop)
    (hY : ∀ pre x W, J pre W → pre.length < len → YieldAt Fence.wide (n - 1) Try.prog l #[.int .i64 (x.1 : Int), fkV x.2] W fun e W' =>
      (e = .returned (.bool true) ∧ J (pre ++ [x]) W' ∧ KpB n₀ Bs W W') ∨ (e = .returned (.bool false) ∧ Jx (pre ++ [x]) W'))
    (W : World) (hBs : W.heap[Bs]? = some (.cells #[.slice av len cap] 74 (0, 0)))
    (hc : ∀ j, j < len → W.cell? ⟨b, j * 3, none⟩ = some (.int .i64 ((p.getD j fk0).1.1 : Int)) ∧ W.cell? ⟨b, j * 3 + 1, none⟩ = some (p.getD j fk0).1.2.1.val ∧ W.cell? ⟨b, j * 3 + 2, none⟩ = some (p.getD j fk0).1.2.2.val) (h0 : J [] W) :
    CallsIn Fence.wide n Try.prog 77 #[.func (.yield l) #[] #[], .pointer (some ⟨Bs, 0, none⟩)] W fun e W' => (∃ v, e = .returned v) ∧
      ((∃ ys, ys = bkTo p len ∧ J ys W') ∨ (∃ pre, (∃ k, k ≤ len ∧ pre = bkTo p k) ∧ Jx pre W')) := by
  refine callsIn_of_wp Try.func77 rfl trivial ?_ rfl
  have hB0 := box_cell hBs
  simp only [Try.ntmps77, List.size_toArray, List.length_cons, List.length_nil, Nat.reduceAdd, Nat.reduceSub, Array.replicate_succ, Array.replicate_zero, List.push_toArray, List.append_toArray, List.nil_append, List.cons_append]
  gi_wp2
  gi_loopw [3] (fun i wr => ∃ k : Nat, k ≤ len ∧ i = .int .i64 ((k : Int) - 1) ∧ J (bkTo p (len - k)) wr ∧ KpB n₀ Bs W wr)
    (fun i _ => ((intOf i) + 1).toNat)
  case atStart => exact ⟨len, Nat.le_refl _, by simp, by rw [Nat.sub_self]; exact h0, KpB.refl _ _ _⟩
  case round =>
    obtain ⟨k, hk, rfl, hJs, hnx⟩ := hrel
    have hBx := box_cell (hnx.s _ hBs)
    rcases k with _ | m
    · gi_wp2
      go_end0
      exact ⟨⟨_, rfl⟩, .inl ⟨_, rfl, by simpa using hJs⟩⟩
    · have hcx := hc m (by omega)
      have hae := hav (by omega)
      subst hae
      have d0 : wr.cell? ⟨b, m * 3, none⟩ = some (.int .i64 ((p.getD m fk0).1.1 : Int)) := (hnx.b.cell (p := ⟨b, m * 3, none⟩) (hb (by omega))).trans hcx.1
      have d1 : wr.cell? ⟨b, m * 3 + 1, none⟩ = some (p.getD m fk0).1.2.1.val := (hnx.b.cell (p := ⟨b, m * 3 + 1, none⟩) (hb (by omega))).trans hcx.2.1
      have d2 : wr.cell? ⟨b, m * 3 + 2, none⟩ = some (p.getD m fk0).1.2.2.val := (hnx.b.cell (p := ⟨b, m * 3 + 2, none⟩) (hb (by omega))).trans hcx.2.2
      have hx : bkAt p (len - (m + 1)) = (m, p.getD m fk0) := by
        have e := HL.out
        unfold bkAt
        rw [show p.length - 1 - (len - (m + 1)) = m by omega]
      have hs : bkTo p (len - m) = bkTo p (len - (m + 1)) ++ [(m, p.getD m fk0)] := by
        rw [show len - m = (len - (m + 1)) + 1 by omega, bkTo_succ, hx]
      obtain ⟨fn, tmps, assign, body, hy, hR⟩ := hY _ (m, p.getD m fk0) wr hJs (by rw [bkTo_len]; omega)
      unfold fkV at hy
      dsimp only at hy
      have hml : (m : Int) < (len : Int) := by omega
      generalize (p.getD m fk0).1.1 = fb at *
      generalize (p.getD m fk0).1.2.1.val = vl at *
      generalize (p.getD m fk0).1.2.2.val = vr at *
      have hi : ((m + 1 : Nat) : Int) - 1 = (m : Int) := by omega
      rw [hi]
      gi_wp2
      refine hR.mono ?_
      rintro e W3 (⟨rfl, hJ3, hk3⟩ | ⟨rfl, hJx3⟩)
      · gi_wp2
        go_roundw
        case rel => exact ⟨m, by omega, by simp, by rw [hs]; exact hJ3, hnx.trans hk3⟩
        case measure => simp [intOf]
      · gi_wp2
        refine bodyPost_ret (results_none rfl _ _ _) rfl ?_
        exact ⟨⟨_, rfl⟩, .inr ⟨_, ⟨len - m, by omega, hs.symm⟩, hJx3⟩⟩
theorem backward_stops (n : Nat) (hn : 1 ≤ n) (Bs n₀ b len cap : Nat) (av : Option Addr) (p : List Fk) (HL : Hid (len = p.length)) (hlen : len ≤ 1000) (hb : 0 < len → b < n₀) (hav : 0 < len → av = some ⟨b, 0, none⟩) (w : World) (hw : n₀ ≤ w.heap.size) (hBs : w.heap[Bs]? = some (.cells #[.slice av len cap] 74 (0, 0)))
    (hc : ∀ j, j < len → w.cell? ⟨b, j * 3, none⟩ = some (.int .i64 ((p.getD j fk0).1.1 : Int)) ∧ w.cell? ⟨b, j * 3 + 1, none⟩ = some (p.getD j fk0).1.2.1.val ∧ w.cell? ⟨b, j * 3 + 2, none⟩ = some (p.getD j fk0).1.2.2.val) :
    SeqStopsK Fence.wide n Try.prog 77 #[.pointer (some ⟨Bs, 0, none⟩)] (fun x : Nat × Fk => #[.int .i64 (x.1 : Int), fkV x.2]) (KpB n₀ Bs) (fun ys => ys = bkTo p len) (fun pre => ∃ k, k ≤ len ∧ pre = bkTo p k) len w :=
  fun l J Jx W hW _ _ hY h0 => backward_in n hn l Bs n₀ b len cap av p HL hlen hb hav J Jx hY W ((hW.block Bs (Array.getElem?_eq_some_iff.1 hBs).1).trans hBs)
    (fun j hj => ⟨(hW.cell (p := ⟨b, j * 3, none⟩) (Nat.lt_of_lt_of_le (hb (by omega)) hw)).trans (hc j hj).1, (hW.cell (p := ⟨b, j * 3 + 1, none⟩) (Nat.lt_of_lt_of_le (hb (by omega)) hw)).trans (hc j hj).2.1, (hW.cell (p := ⟨b, j * 3 + 2, none⟩) (Nat.lt_of_lt_of_le (hb (by omega)) hw)).trans (hc j hj).2.2⟩) h0
/-- What the body makes of a fork. -/
def fko (key : Int) (f : Nat × Tr × Tr) : Int × Int := ((f.1 : Int), if bitN key f.1 = 0 then f.2.2.sum else f.2.1.sum)
theorem way_steps (key : Int) (t : Tr) : t.way key = ((t.steps key).map (fko key)).reverse := by
  induction t using Tr.ind with
  | none => rfl
  | leaf k v => rfl
  | fork b l r ih1 ih2 =>
    rw [Tr.steps_fork, List.map_cons, List.reverse_cons]
    show (if bitN key b = 0 then l.way key ++ [((b : Int), r.sum)] else r.way key ++ [((b : Int), l.sum)]) = _
    by_cases h : bitN key b = 0
    · rw [if_pos h, if_pos h, ih1]; unfold fko; simp only [h, if_true]
    · rw [if_neg h, if_neg h, ih2]; unfold fko; simp only [h, if_false]
def tw (key : Int) (pre : List (Nat × Fk)) : Prl := pre.map fun x => fko key x.2.1
theorem bkTo_all (p : List Fk) : (bkTo p p.length).map (·.2) = p.reverse := by
  unfold bkTo
  apply List.ext_getElem
  · simp
  · intro i h1 h2
    simp only [List.length_map, List.length_range] at h1
    simp [bkAt]
    rw [List.getElem?_eq_getElem (by omega)]
    rfl
theorem tw_all (key : Int) (p : List Fk) : tw key (bkTo p p.length) = ((p.map (·.1)).map (fko key)).reverse := by
  have h := bkTo_all p
  unfold tw
  rw [show (fun x : Nat × Fk => fko key x.2.1) = (fun f : Fk => fko key f.1) ∘ (·.2) from rfl, ← List.map_map, h, List.map_reverse, List.map_map]
  rfl
theorem Tr.steps_ok (key : Int) (t : Tr) : t.Ok → ∀ f ∈ t.steps key, f.1 ≤ 7 ∧ f.2.1.Ok ∧ f.2.2.Ok := by
  induction t using Tr.ind with
  | none => intro _ f hf; cases hf
  | leaf k v => intro _ f hf; cases hf
  | fork b l r ih1 ih2 =>
    intro h f hf
    rw [Tr.steps_fork] at hf
    rcases List.mem_cons.1 hf with rfl | hf
    · exact h
    · split at hf
      · exact ih1 h.2.1 f hf
      · exact ih2 h.2.2 f hf
theorem steps_fk (key : Int) {t : Tr} (h : t.Ok) : ∃ p : List Fk, p.map (·.1) = t.steps key := by
  refine ⟨(t.steps key).pmap (fun f hf => ⟨f, hf⟩) (Tr.steps_ok key t h), ?_⟩
  rw [List.map_pmap]
  simp
theorem cl3_at (q : List (Nat × Tr × Tr)) : ∀ (j : Nat) (f : Nat × Tr × Tr), q[j]? = some f → (cl3 q)[j * 3]? = some (.int .i64 (f.1 : Int)) ∧ (cl3 q)[j * 3 + 1]? = some f.2.1.val ∧ (cl3 q)[j * 3 + 2]? = some f.2.2.val := by
  induction q with
  | nil => intro j f h; simp at h
  | cons a t ih =>
    intro j f h
    have e : cl3 (a :: t) = [.int .i64 (a.1 : Int), a.2.1.val, a.2.2.val] ++ cl3 t := rfl
    rw [e]
    rcases j with _ | j
    · simp at h; subst h; exact ⟨rfl, rfl, rfl⟩
    · have h' : t[j]? = some f := by simpa using h
      have := ih j f h'
      rw [List.getElem?_append_right (by simp; omega), List.getElem?_append_right (by simp; omega), List.getElem?_append_right (by simp; omega)]
      simp only [List.length_cons, List.length_nil]
      rw [show (j + 1) * 3 - (0 + 1 + 1 + 1) = j * 3 by omega, show (j + 1) * 3 + 1 - (0 + 1 + 1 + 1) = j * 3 + 1 by omega, show (j + 1) * 3 + 2 - (0 + 1 + 1 + 1) = j * 3 + 2 by omega]
      exact this
theorem own_cl3 {w : World} {B : Nat} {e : TypeId} {av : Option Addr} {len cap : Nat} {p : List Fk} (h : w.ownsRow B e 3 (.slice av len cap) len (cl3 (p.map (·.1)))) (hl : len = p.length) :
    ∃ b, (0 < len → av = some ⟨b, 0, none⟩ ∧ b < w.heap.size) ∧ ∀ j, j < len → w.cell? ⟨b, j * 3, none⟩ = some (.int .i64 ((p.getD j fk0).1.1 : Int)) ∧ w.cell? ⟨b, j * 3 + 1, none⟩ = some (p.getD j fk0).1.2.1.val ∧ w.cell? ⟨b, j * 3 + 2, none⟩ = some (p.getD j fk0).1.2.2.val := by
  have h0 := h
  rcases h.2 with ⟨h1, hn⟩ | ⟨g, cap', cur, h1, hB, hg, _⟩
  · exact ⟨0, fun h => by omega, fun j hj => by omega⟩
  · cases h1
    refine ⟨g, fun _ => ⟨rfl, (Array.getElem?_eq_some_iff.1 hg).1⟩, fun j hj => ?_⟩
    have hj' : j < p.length := by omega
    have hf : (p.map (·.1))[j]? = some (p.getD j fk0).1 := by
      rw [List.getElem?_map, List.getD_eq_getElem?_getD, List.getElem?_eq_getElem hj']
      rfl
    have := cl3_at _ j _ hf
    exact ⟨(h0.cellAt (j * 3) (by omega)).trans this.1, (h0.cellAt (j * 3 + 1) (by omega)).trans this.2.1, (h0.cellAt (j * 3 + 2) (by omega)).trans this.2.2⟩
end U
end Go.Proofs.Ytljbcpkjhnbpeaa
