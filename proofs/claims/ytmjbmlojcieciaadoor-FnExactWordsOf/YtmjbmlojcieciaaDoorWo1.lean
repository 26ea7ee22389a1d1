/- The pieces of a text at its blanks, one by one, as an iterator tells them: for every body that goes on and keeps what lay. -/
import Derived.Test.YtmjbmlojcieciaaDoorShelf
import Derived.Test.YtmjbmlojcieciaaDoorParse2
import Derived.RangeFuncNested
import Derived.RangeFuncBound
import Derived.RangeFuncCalls
import Derived.RangeFuncLeaves
import Derived.Shelf.Abstract
import Derived.Shelf.RegionOpen
import Derived.WalkKit
import Derived.OwnWalkIn
import Derived.TacticsInMore
import Derived.LoopNIn
import Derived.LoopIn
namespace Go.Proofs.YtmjbmlojcieciaaDoor
open Go.RowKit Go.Shelf
namespace U
attribute [local go_sem] Oper.semAt_some
theorem idx1_ge : ∀ (t : List UInt8) (c : UInt8), -1 ≤ Lib.indexByte t c
  | [], _ => Int.le_refl _
  | b :: l, c => by
    have ih := idx1_ge l c
    rw [Lib.indexByte]
    split
    · decide
    · split <;> omega
theorem idx1_none {c : UInt8} : ∀ {t : List UInt8}, Lib.indexByte t c = -1 → cutL c t = [t]
  | [], _ => rfl
  | b :: l, h => by
    rw [Lib.indexByte] at h
    by_cases e : b = c
    · rw [if_pos (by simp [e])] at h; exact absurd h (by decide)
    · rw [if_neg (by simp [e])] at h
      by_cases h2 : Lib.indexByte l c = -1
      · rw [cutL, if_neg e, idx1_none h2]
      · rw [if_neg (by simp [h2])] at h
        have := idx1_ge l c
        omega
theorem idx1_at {c : UInt8} : ∀ {t : List UInt8} {j : Nat}, Lib.indexByte t c = (j : Int) → j < t.length ∧ cutL c t = t.take j :: cutL c (t.drop (j + 1))
  | [], j, h => by rw [Lib.indexByte] at h; omega
  | b :: l, j, h => by
    rw [Lib.indexByte] at h
    by_cases e : b = c
    · rw [if_pos (by simp [e])] at h
      obtain rfl : j = 0 := by omega
      rw [cutL, if_pos e]
      simp
    · rw [if_neg (by simp [e])] at h
      by_cases h2 : Lib.indexByte l c = -1
      · rw [if_pos (by simp [h2])] at h; omega
      · rw [if_neg (by simp [h2])] at h
        have hg := idx1_ge l c
        obtain ⟨i, rfl⟩ : ∃ i, j = i + 1 := ⟨j - 1, by omega⟩
        obtain ⟨h3, h4⟩ := idx1_at (c := c) (t := l) (j := i) (by omega)
        rw [cutL, if_neg e, h4]
        exact ⟨by simp; omega, by simp⟩
theorem idx1_cases (t : List UInt8) (c : UInt8) : Lib.indexByte t c = -1 ∨ ∃ j : Nat, Lib.indexByte t c = (j : Int) := by
  have := idx1_ge t c
  by_cases h : Lib.indexByte t c = -1
  · exact Or.inl h
  · exact Or.inr ⟨(Lib.indexByte t c).toNat, by omega⟩
theorem cutB_none {s : ByteArray} (h : Lib.indexByte s.data.toList 32 = -1) : cutB s = [s] := by
  unfold cutB
  rw [idx1_none h]
  rfl
theorem cutB_at {s : ByteArray} {j : Nat} (h : Lib.indexByte s.data.toList 32 = (j : Int)) : j < s.size ∧ cutB s = s.extract 0 j :: cutB (s.extract (j + 1) s.size) := by
  obtain ⟨h1, h2⟩ := idx1_at h
  refine ⟨h1, ?_⟩
  have e1 : (s.extract 0 j).data.toList = s.data.toList.take j := by simp
  have e2 : (s.extract (j + 1) s.size).data.toList = s.data.toList.drop (j + 1) := by
    rw [ByteArray.data_extract, Array.toList_extract, List.extract_eq_take_drop]
    exact List.take_of_length_le (by rw [List.length_drop]; exact Nat.le_refl _)
  unfold cutB
  rw [h2, e2, List.map_cons]
  congr 1
  apply ByteArray.ext
  apply Array.toList_inj.1
  rw [e1]
/-- The three boxes of an iterator lie as they lay. -/
def TriAt (bs : Nat) (A B : World) : Prop := ∀ j, j < 3 → B.heap[bs + j]? = A.heap[bs + j]?
theorem TriAt.trans {bs : Nat} {A B C : World} (h : TriAt bs A B) (k : TriAt bs B C) : TriAt bs A C := fun j hj => (k j hj).trans (h j hj)
theorem cell_tri {A B : World} {k o : Nat} (h : B.heap[k]? = A.heap[k]?) : B.cell? ⟨k, o, none⟩ = A.cell? ⟨k, o, none⟩ := by
  unfold World.cell?
  dsimp only
  rw [h]
/-- What a body is told to keep: it says 'go on', and the iterator's boxes lie as they lay. -/
def PieceY (n bs l : Nat) (s : ByteArray) (J : List ByteArray → World → Prop) : Prop :=
  ∀ pre x W, J pre W → x.size ≤ 1048576 → (∃ tl, pre ++ x :: tl = cutB s) → YieldAt Fence.wide (n - 1) Tryd.prog l #[.string x] W fun e W' => e = .returned (.bool true) ∧ J (pre ++ [x]) W' ∧ TriAt bs W W'
/-- How much is left of the text in its box. -/
def leftS (w : World) (bs : Nat) : Nat := match w.cell? ⟨bs, 0, none⟩ with | some (.string x) => x.size | _ => 0
theorem leftS_eq {w : World} {bs : Nat} {x : ByteArray} (h : w.cell? ⟨bs, 0, none⟩ = some (.string x)) : leftS w bs = x.size := by unfold leftS; rw [h]
structure PieceR (bs : Nat) (s : ByteArray) (J : List ByteArray → World → Prop) (wr : World) : Prop where
  ex : ∃ pre rest, J pre wr ∧ wr.heap[bs]? = some (.cells #[.string rest] 9 (0, 0)) ∧ pre ++ cutB rest = cutB s ∧ rest.size ≤ 1048576
  c1 : wr.cell? ⟨bs + 1, 0, none⟩ = some (.string ⟨#[32]⟩)
  c2 : wr.cell? ⟨bs + 2, 0, none⟩ = some (.int .i64 0)
theorem box_cellW {w : World} {b : Nat} {v : Value} {t : TypeId} (h : w.heap[b]? = some (.cells #[v] t (0, 0))) : w.cell? ⟨b, 0, none⟩ = some v ∧ w.frozen? ⟨b, 0, none⟩ = false := by simp [World.cell?, World.frozen?, h]
set_option maxRecDepth 100000 in
set_option maxHeartbeats 2000000 in
theorem splitSeq_in (n : Nat) (hn : 1 ≤ n) (l bs : Nat) (s : ByteArray) (J : List ByteArray → World → Prop) (hJ : ∀ p A B, J p A → A.grownBy B (some bs) → J p B) (hY : PieceY n bs l s J)
    (W : World) (h0 : J [] W) (c0 : W.heap[bs]? = some (.cells #[.string s] 9 (0, 0))) (hs : s.size ≤ 1048576)
    (c1 : W.cell? ⟨bs + 1, 0, none⟩ = some (.string ⟨#[32]⟩)) (c2 : W.cell? ⟨bs + 2, 0, none⟩ = some (.int .i64 0)) :
    CallsIn Fence.wide n Tryd.prog 63 #[.func (.yield l) #[] #[], .pointer (some ⟨bs + 1, 0, none⟩), .pointer (some ⟨bs, 0, none⟩), .pointer (some ⟨bs + 2, 0, none⟩)] W fun e W' => (∃ v, e = .returned v) ∧ J (cutB s) W' := by
  refine callsIn_of_wp Tryd.func63 rfl trivial ?_ rfl
  have hB0 := box_cellW c0
  simp only [Tryd.ntmps63, List.size_toArray, List.length_cons, List.length_nil, Nat.reduceAdd, Nat.reduceSub, Array.replicate_succ, Array.replicate_zero, List.push_toArray, List.append_toArray, List.nil_append, List.cons_append]
  gi_wp2
  gi_loopw [7] (fun _ wr => PieceR bs s J wr) (fun _ wr => leftS wr bs)
  case atStart => exact ⟨⟨[], s, h0, c0, rfl, hs⟩, c1, c2⟩
  case round =>
    obtain ⟨⟨pre, rest, hJr, hbx, hpre, hrs⟩, k1, k2⟩ := hrel
    obtain ⟨kc, kf⟩ := box_cellW hbx
    have hI := fun w => (callsIn_wide (n := n - 1)).2 (Tryd.strings_Index_one rest 32 w)
    rcases idx1_cases rest.data.toList 32 with hx | ⟨j, hx⟩
    · have hc := cutB_none hx
      rw [hx] at hI
      rw [hc] at hpre
      obtain ⟨fn, tmps, assign, body, hy, hR⟩ := hY _ rest wr hJr hrs ⟨[], hpre⟩
      rw [hpre] at hR
      gi_wp2
      refine ⟨trivial, (hI _).mono ?_⟩
      rintro e w' ⟨rfl, rfl⟩
      gi_wp2
      refine hR.mono ?_
      rintro e W3 ⟨rfl, hJ3, -⟩
      gi_wp2
      go_end0
      exact ⟨⟨_, rfl⟩, hJ3⟩
    · obtain ⟨hjl, hc⟩ := cutB_at hx
      rw [hx] at hI
      obtain ⟨x, ex⟩ : ∃ x, x = rest.extract 0 j := ⟨_, rfl⟩
      obtain ⟨nx, en⟩ : ∃ nx, nx = rest.extract (j + 1) rest.size := ⟨_, rfl⟩
      have hxs : x.size ≤ 1048576 := by rw [ex]; simp; omega
      have hns : nx.size < rest.size := by rw [en]; simp; omega
      rw [← ex, ← en] at hc
      have HX : Hid (x = rest.extract 0 j) := ex
      have HN : Hid (nx = rest.extract (j + 1) rest.size) := en
      obtain ⟨fn, tmps, assign, body, hy, hR⟩ := hY _ x wr hJr hxs ⟨cutB nx, by rw [← hpre, hc]⟩
      rw [ex] at hy
      have hj0 : ¬ ((j : Int) < 0) := by omega
      have hj1 : (0 : Int) ≤ (j : Int) := by omega
      have hj2 : (j : Int) ≤ (rest.size : Int) := by omega
      have hj3 : ((j + 1 : Nat) : Int) ≤ (rest.size : Int) := by omega
      clear ex en hx
      gi_wp2
      refine ⟨trivial, (hI _).mono ?_⟩
      rintro e w' ⟨rfl, rfl⟩
      gi_wp2
      refine hR.mono ?_
      rintro e W3 ⟨rfl, hJ3, hb3⟩
      have hbx3 : W3.heap[bs]? = some (.cells #[.string rest] 9 (0, 0)) := (hb3 0 (by omega)).trans hbx
      have kc0 := kc
      obtain ⟨kc, kf⟩ := box_cellW hbx3
      have k1 := (cell_tri (hb3 1 (by omega))).trans k1
      have k2 := (cell_tri (hb3 2 (by omega))).trans k2
      clear hy hI hJr
      gi_wp2
      go_roundw
      case rel =>
        rw [← HN.out]
        have hbx4 : Boxed (W3.setCell ⟨bs, 0, none⟩ (.string nx)) bs 9 (.string nx) := Boxed.set (.string nx) hbx3
        exact ⟨⟨pre ++ [x], nx, hJ _ _ _ hJ3 (grownBy_setCell' W3 bs _), hbx4, by rw [List.append_assoc, ← hpre, hc]; rfl, by omega⟩,
          (World.cell?_setCell_other _ _ _ _ (by simp)).trans k1, (World.cell?_setCell_other _ _ _ _ (by simp)).trans k2⟩
      case measure =>
        rw [← HN.out, leftS_eq kc0, leftS_eq (Boxed.cell (Boxed.set (.string nx) hbx3))]
        exact hns
end U
end Go.Proofs.YtmjbmlojcieciaaDoor
