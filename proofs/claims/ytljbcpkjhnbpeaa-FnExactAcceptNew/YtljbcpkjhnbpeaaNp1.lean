/- The iterator over the forks of a trail, each one behind the bit of the one ahead, for every body that writes cells of one block alone. -/
import Derived.Test.YtljbcpkjhnbpeaaNpM
import Derived.Test.YtljbcpkjhnbpeaaSl1
import Derived.Test.YtljbcpkjhnbpeaaQuiet
import Derived.RangeFuncNested
import Derived.RangeFuncBound
import Derived.RangeFuncCalls
import Derived.RangeFuncLeaves
import Derived.Shelf.Abstract
import Derived.Shelf.RegionOpen
import Derived.WalkKit
import Derived.OwnWalkIn
import Derived.TacticsInMore
import Derived.LoopNIn
import Derived.LoopIn
namespace Go.Proofs.Ytljbcpkjhnbpeaa
open Go.RowKit Go.Shelf
namespace U
attribute [local go_sem] Oper.semAt_some
/-- What a round keeps: all cells but those of one block. -/
structure KpX (X : Nat) (A B : World) : Prop where
  z : A.heap.size ≤ B.heap.size
  s : ∀ k o, k ≠ X → o.isCells = true → A.heap[k]? = some o → B.heap[k]? = some o
theorem KpX.refl (X : Nat) (A : World) : KpX X A A := ⟨Nat.le_refl _, fun _ _ _ _ h => h⟩
theorem KpX.trans {X : Nat} {A B C : World} (h : KpX X A B) (k : KpX X B C) : KpX X A C := ⟨Nat.le_trans h.z k.z, fun i o h1 h2 h3 => k.s i o h1 h2 (h.s i o h1 h2 h3)⟩
theorem KpX.put {X : Nat} (W : World) (l : Nat) (o o' : Obj) (h : W.heap[l]? = some o) (hn : o.isCells = false) : KpX X W (W.putObj l o') :=
  ⟨by rw [World.putObj_size]; exact Nat.le_refl _, fun k q _ hq hk => by
    have hne : k ≠ l := fun e => by subst e; rw [h] at hk; cases hk; rw [hn] at hq; cases hq
    rw [World.putObj_heap_other hne]; exact hk⟩
theorem KpX.of_below {X : Nat} {A B : World} (h : Below A.heap.size A B) : KpX X A B := ⟨h.size, fun k _ _ _ hk => (h.block k (Array.getElem?_eq_some_iff.1 hk).1).trans hk⟩
theorem KpX.cell {X : Nat} {A B : World} (h : KpX X A B) {b o : Nat} {v : Value} (hne : b ≠ X) (hc : A.cell? ⟨b, o, none⟩ = some v) : B.cell? ⟨b, o, none⟩ = some v := by
  unfold World.cell? at hc ⊢
  rcases hh : A.heap[b]? with _ | ob
  · simp [hh] at hc
  · rcases ob with ⟨cs, t, fz⟩ | _ | _ | _ | _ | _ | _ | _ <;> simp [hh] at hc
    have := h.s b _ hne rfl hh
    simp [this]
    exact hc
theorem KpX.set {X : Nat} {A B : World} (h : KpX X A B) (o : Nat) (v : Value) : KpX X A (B.setCell ⟨X, o, none⟩ v) :=
  ⟨by rw [World.size_setCell]; exact h.z, fun k q h1 h2 h3 => (heap_setCell_other _ _ _ _ h1).trans (h.s k q h1 h2 h3)⟩
theorem box1_cell {w : World} {b : Nat} {v : Value} {t : TypeId} (h : w.heap[b]? = some (.cells #[v] t (0, 0))) : w.cell? ⟨b, 0, none⟩ = some v := by unfold World.cell?; rw [h]; rfl
/-- The first ones of what comes. -/
def upTo {α : Type} (g : Nat → α) (m : Nat) : List α := (List.range m).map g
theorem upTo_succ {α : Type} (g : Nat → α) (m : Nat) : upTo g (m + 1) = upTo g m ++ [g m] := by unfold upTo; rw [List.range_succ, List.map_append]; rfl
theorem upTo_len {α : Type} (g : Nat → α) (m : Nat) : (upTo g m).length = m := by simp [upTo]
set_option maxRecDepth 100000 in
theorem forksUp_any (v : Value) (f : Prl) (w : World) (hv : Prs w v f) : Calls Try.prog 83 #[v] w fun e w' => e = .returned (.func (.func 105) #[] #[.pointer (some ⟨w.heap.size, 0, none⟩)]) ∧ w' = w.alloc (.cells #[v] 29) := by
  obtain ⟨a, c, rfl⟩ := hv.shape
  clear hv
  go_enter Try.func83, Try.ntmps83
  go_wp2
  go_ret
  exact ⟨rfl, rfl⟩
set_option maxRecDepth 100000 in
set_option maxHeartbeats 2000000 in
theorem forksUp_in {α : Type} (n : Nat) (hn : 1 ≤ n) (l X Bs b off len cap : Nat) (av : Option Addr) (f : Prl) (g : Nat → α) (encs : α → Array Value) (HL : Hid (len = f.length)) (hlen : len ≤ 1000) (hX : 0 < len → b ≠ X) (hav : 0 < len → av = some ⟨b, off, none⟩)
    (HE : Hid (∀ j, j < len → encs (g j) = #[.int .i64 (ahd f j), .agg #[.int .i64 (pAt f j).1, .int .i64 (pAt f j).2]])) (J Jx : List α → World → Prop)
    (hJ : ∀ s A B, J s A → A.grownBy B none → J s B)
    (hY : ∀ pre x W, J pre W → pre.length < len → YieldAt Fence.wide (n - 1) Try.prog l (encs x) W fun e W' =>
      (e = .returned (.bool true) ∧ J (pre ++ [x]) W' ∧ KpX X W W') ∨ (e = .returned (.bool false) ∧ Jx (pre ++ [x]) W'))
    (W : World) (hXW : X < W.heap.size) (hBs : W.heap[Bs]? = some (.cells #[.slice av len cap] 29 (0, 0)))
    (hc : ∀ j, j < len → W.cell? ⟨b, off + j * 2, none⟩ = some (.int .i64 (pAt f j).1) ∧ W.cell? ⟨b, off + j * 2 + 1, none⟩ = some (.int .i64 (pAt f j).2)) (h0 : J [] W) :
    CallsIn Fence.wide n Try.prog 105 #[.func (.yield l) #[] #[], .pointer (some ⟨Bs, 0, none⟩)] W fun e W' => (∃ v, e = .returned v) ∧
      ((∃ ys, ys = upTo g len ∧ J ys W') ∨ (∃ pre, (∃ k, k < len ∧ pre = upTo g (k + 1)) ∧ Jx pre W')) := by
  refine callsIn_of_wp Try.func105 rfl trivial ?_ rfl
  have hB0 := box1_cell hBs
  simp only [Try.ntmps105, List.size_toArray, List.length_cons, List.length_nil, Nat.reduceAdd, Nat.reduceSub, Array.replicate_succ, Array.replicate_zero, List.push_toArray, List.append_toArray, List.nil_append, List.cons_append]
  gi_wp2
  gi_loopw [3, 8] (fun a i wr => ∃ k : Nat, k ≤ len ∧ i = .int .i64 (k : Int) ∧ a = .int .i64 (ahd f k) ∧ Hid (J (upTo g k) wr) ∧ Hid (KpX X W wr))
    (fun _ i _ => len - (intOf i).toNat)
  case atStart => exact ⟨0, Nat.zero_le _, rfl, rfl, h0, KpX.refl _ _⟩
  case round =>
    obtain ⟨k, hk, rfl, rfl, hJs, hnx⟩ := hrel
    by_cases hkn : k < len
    · have hki : (k : Int) < (len : Int) := by omega
      have hae := hav (by omega)
      subst hae
      have hcx := hc k hkn
      have d0 := hnx.out.cell (hX (by omega)) hcx.1
      have d1 := hnx.out.cell (hX (by omega)) hcx.2
      have hs : Hid (upTo g (k + 1) = upTo g k ++ [g k]) := upTo_succ g k
      have hx := HE.out k hkn
      have hah : Hid (ahd f (k + 1) = (pAt f k).1) := ahd_succ f k
      obtain ⟨W2, hW2⟩ : ∃ W2, W2 = wr.alloc (.cells #[.int .i64 (pAt f k).1, .int .i64 (pAt f k).2] 52) := ⟨_, rfl⟩
      have hJ2 : J (upTo g k) W2 := by rw [hW2]; exact hJ _ _ _ hJs.out (World.grownBy_alloc wr _ none)
      obtain ⟨fn, tmps, assign, body, hy, hR⟩ := hY _ (g k) W2 hJ2 (by rw [upTo_len]; exact hkn)
      rw [hx] at hy
      have hbx : W2.heap[wr.heap.size]? = some (.cells #[.int .i64 (pAt f k).1, .int .i64 (pAt f k).2] 52) := by rw [hW2]; exact heap_alloc_new wr _
      have hz : Hid (X < wr.heap.size) := Nat.lt_of_lt_of_le hXW hnx.out.z
      have hk2 : Hid (KpX X W W2) := (hnx.out.trans (by rw [hW2]; exact KpX.of_below (one_new _)) : KpX X W W2)
      rw [hW2] at hy
      have HW2 : Hid (W2 = wr.alloc (.cells #[.int .i64 (pAt f k).1, .int .i64 (pAt f k).2] 52)) := hW2
      generalize (pAt f k).1 = fb at *
      generalize (pAt f k).2 = fo at *
      generalize ahd f k = fa at *
      clear hc hcx hJs HE hW2
      gi_wp2
      rw [← HW2.out]
      refine hR.mono ?_
      rintro e W3 (⟨rfl, hJ3, hk3⟩ | ⟨rfl, hJx3⟩)
      · obtain ⟨e0, -⟩ := two_cellsV (hk3.s _ _ (by have := hz.out; omega) rfl hbx)
        gi_wp2
        go_roundw
        case rel => exact ⟨k + 1, by omega, by go_num, by rw [hah.out], by rw [hs.out]; exact hJ3, hk2.out.trans hk3⟩
        case measure => simp [intOf]; omega
      · gi_wp2
        refine bodyPost_ret (results_none rfl _ _ _) rfl ?_
        exact ⟨⟨_, rfl⟩, .inr ⟨_, ⟨k, hkn, hs.out.symm⟩, hJx3⟩⟩
    · have hkn : k = len := by omega
      subst hkn
      clear hc
      gi_wp2
      go_end0
      exact ⟨⟨_, rfl⟩, .inl ⟨_, rfl, hJs.out⟩⟩
theorem forksUp_stops {α : Type} {w : World} (n : Nat) (hn : 1 ≤ n) (X Bs b off len cap : Nat) (av : Option Addr) (f : Prl) (g : Nat → α) (encs : α → Array Value) (HL : Hid (len = f.length)) (hlen : len ≤ 1000) (hX : 0 < len → b ≠ X) (hav : 0 < len → av = some ⟨b, off, none⟩ ∧ b < w.heap.size)
    (HE : Hid (∀ j, j < len → encs (g j) = #[.int .i64 (ahd f j), .agg #[.int .i64 (pAt f j).1, .int .i64 (pAt f j).2]])) (hXW : X < w.heap.size) (hBs : w.heap[Bs]? = some (.cells #[.slice av len cap] 29 (0, 0)))
    (hc : ∀ j, j < len → w.cell? ⟨b, off + j * 2, none⟩ = some (.int .i64 (pAt f j).1) ∧ w.cell? ⟨b, off + j * 2 + 1, none⟩ = some (.int .i64 (pAt f j).2)) :
    SeqStopsK Fence.wide n Try.prog 105 #[.pointer (some ⟨Bs, 0, none⟩)] encs (KpX X) (fun ys => ys = upTo g len) (fun pre => ∃ k, k < len ∧ pre = upTo g (k + 1)) len w :=
  fun l J Jx W hW hJ _ hY h0 => forksUp_in n hn l X Bs b off len cap av f g encs HL hlen hX (fun h => (hav h).1) HE J Jx (fun s A B h hg => hJ s A B none h hg (fun r e => by cases e)) hY W (Nat.lt_of_lt_of_le hXW hW.size) ((hW.block Bs (Array.getElem?_eq_some_iff.1 hBs).1).trans hBs)
    (fun j hj => ⟨(hW.cell (p := ⟨b, off + j * 2, none⟩) (hav (by omega)).2).trans (hc j hj).1, (hW.cell (p := ⟨b, off + j * 2 + 1, none⟩) (hav (by omega)).2).trans (hc j hj).2⟩) h0
end U
end Go.Proofs.Ytljbcpkjhnbpeaa
