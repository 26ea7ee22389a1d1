/- A source of choices: the bytes of a code, read one by one. -/
import Derived.Test.YtbjdplipgghndaaGreatIntR
namespace Go.Proofs.YtbjdplipgghndaaGreat
open Go.RowKit
namespace U
/-- The source lies in block q: its code, and how many were read. The code lies in an older block. -/
def SrcAt (q : Nat) (cv : Value) (cs : List Int) (a : Nat) (w : World) : Prop :=
  w.heap[q]? = some (.cells #[cv, .int .i64 a] 158 (0, 0)) ∧ Ints .u8 w cv cs ∧ (cs ≠ [] → ∀ g, cv.ownBlock = some g → g < q) ∧ cs.length ≤ 1048576 ∧ ∀ j, 0 ≤ cs.getD j 0 ∧ cs.getD j 0 ≤ 255
theorem SrcAt.lt {q a : Nat} {cv : Value} {cs : List Int} {w : World} (h : SrcAt q cv cs a w) : q < w.heap.size := (Array.getElem?_eq_some_iff.1 h.1).1
theorem SrcAt.grown {q a : Nat} {cv : Value} {cs : List Int} {w w' : World} {row : Option Nat} (h : SrcAt q cv cs a w) (hg : w.grownBy w' row) (hr : ∀ k, row = some k → q < k) : SrcAt q cv cs a w' := by
  obtain ⟨h1, h2, h3, h4, h5⟩ := h
  have hq := (Array.getElem?_eq_some_iff.1 h1).1
  refine ⟨(hg.block q hq (fun e => by have := hr q e.symm; omega)).trans h1, ?_, h3, h4, h5⟩
  rcases h2 with h2 | ⟨b, off, c, rfl, hlt, hc⟩
  · exact Or.inl h2
  · by_cases hz : cs = []
    · subst hz; exact Or.inl ⟨rfl, _, _, rfl⟩
    have hb := h3 hz b rfl
    exact Or.inr ⟨b, off, c, rfl, Nat.lt_of_lt_of_le hlt hg.size, fun j hj => hg.cell (hc j hj) (fun e => by have := hr b e.symm; omega)⟩
theorem SrcAt.alloc {q a : Nat} {cv : Value} {cs : List Int} {w : World} (h : SrcAt q cv cs a w) (o : Obj) : SrcAt q cv cs a (w.alloc o) := h.grown (World.grownBy_alloc w o none) (fun k hk => by cases hk)
theorem SrcAt.next {q a : Nat} {cv : Value} {cs : List Int} {w : World} (h : SrcAt q cv cs a w) (m : Nat) : SrcAt q cv cs (a + 1) ((w.setCell ⟨q, 1, none⟩ (.int .i64 ((a : Int) + 1))).drewN m) ∧ w.grownBy ((w.setCell ⟨q, 1, none⟩ (.int .i64 ((a : Int) + 1))).drewN m) (some q) := by
  obtain ⟨h1, h2, h3, h4, h5⟩ := h
  have hh : (w.setCell ⟨q, 1, none⟩ (.int .i64 ((a : Int) + 1))).heap[q]? = some (.cells #[cv, .int .i64 ((a : Int) + 1)] 158 (0, 0)) := by
    have := heap_setCell_same w q 1 _ _ (.int .i64 ((a : Int) + 1)) h1
    simpa using this
  refine ⟨⟨?_, ?_, h3, h4, h5⟩, ⟨rfl, rfl, rfl, by simp, fun k _ hk => heap_setCell_other w ⟨q, 1, none⟩ k _ (fun e => hk (by simp [e]))⟩⟩
  · simpa using hh
  · rcases h2 with h2 | ⟨b, off, c, rfl, hlt, hc⟩
    · exact Or.inl h2
    · by_cases hz : cs = []
      · subst hz; exact Or.inl ⟨rfl, _, _, rfl⟩
      have hb := h3 hz b rfl
      refine Or.inr ⟨b, off, c, rfl, by simpa using hlt, fun j hj => ?_⟩
      rw [World.cell?_drewN]
      exact (World.cell?_setCell_other _ _ _ _ (by intro e; have := congrArg Addr.block e; dsimp only at this; omega)).trans (hc j hj)
theorem ints_far {k : IntKind} {w : World} {v : Value} {xs : List Int} (h : Ints k w v xs) : xs ≠ [] → ∀ g, v.ownBlock = some g → g < w.heap.size := by
  intro hz g e
  rcases h with ⟨h, _⟩ | ⟨b, off, c, rfl, hlt, _⟩
  · exact absurd h hz
  · simp [Value.ownBlock] at e
    omega
/-- What a draw leaves: the source is read on, nothing else that was there has turned. -/
def Drew (q : Nat) (cv : Value) (cs : List Int) (a K : Nat) (w w' : World) : Prop := w.grownBy w' (some q) ∧ ∃ a', a ≤ a' ∧ a' ≤ a + K ∧ SrcAt q cv cs a' w'
set_option maxRecDepth 100000 in
set_option maxHeartbeats 2000000 in
theorem l1Next_any (q a : Nat) (cv : Value) (cs : List Int) (n : Nat) (w : World) (h : SrcAt q cv cs a w) (ha : a ≤ 100000) (hn : 1 ≤ n) (hn2 : n ≤ 1048576) :
    Calls Tryz.prog 59 #[.pointer (some ⟨q, 0, none⟩), .int .i64 n] w fun e w' => ∃ r : Nat, r < n ∧ e = .returned (.int .i64 r) ∧ w.grownBy w' (some q) ∧ SrcAt q cv cs (a + 1) w' := by
  have hnx := fun m => h.next m
  obtain ⟨x, c, rfl⟩ := h.2.1.shape
  obtain ⟨c0, c1, f0, f1⟩ := two_cells h.1
  have hlen := h.2.2.2.1
  obtain ⟨k, hkk⟩ : ∃ k, k = cs.length := ⟨_, rfl⟩
  have HK : Hid (k = cs.length) := hkk
  rw [← hkk] at hlen c0 hnx ⊢
  by_cases hk : k = 0
  · subst hk
    clear h hkk
    go_enter Tryz.func59, Tryz.ntmps59
    go_wp2
    go_ret
    exact ⟨(a * 7) % n, Nat.mod_lt _ (by omega), by simp, (hnx 0).2, (hnx 0).1⟩
  · obtain ⟨_, b, off, rfl, hb, hc⟩ := h.2.1.at (by omega)
    have hbq := h.2.2.1 (fun e => by rw [e] at hkk; simp at hkk; omega) b rfl
    have hbd := h.2.2.2.2
    rw [← hkk] at hc
    have hm : a % k < k := Nat.mod_lt _ (by omega)
    have hm2 : (a + 1) % k < k := Nat.mod_lt _ (by omega)
    have hc1 := hc (a % k) hm
    have hc2 := hc ((a + 1) % k) hm2
    have hb1 := hbd (a % k)
    have hb2 := hbd ((a + 1) % k)
    generalize cs.getD (a % k) 0 = x1 at *
    generalize cs.getD ((a + 1) % k) 0 = x2 at *
    have ei : (a : Int) % (k : Int) = ((a % k : Nat) : Int) := (Int.natCast_emod a k).symm
    have ej : ((a : Int) + 1) % (k : Int) = (((a + 1) % k : Nat) : Int) := (Int.natCast_emod (a + 1) k).symm
    have hmi : ((a : Int) % (k : Int)).toNat = a % k := by rw [ei]; rfl
    have hmj : (((a : Int) + 1) % (k : Int)).toNat = (a + 1) % k := by rw [ej]; rfl
    have hmi1 : 0 ≤ (a : Int) % (k : Int) := by rw [ei]; omega
    have hmi2 : (a : Int) % (k : Int) < (k : Int) := by rw [ei]; omega
    have hmj1 : 0 ≤ ((a : Int) + 1) % (k : Int) := by rw [ej]; omega
    have hmj2 : ((a : Int) + 1) % (k : Int) < (k : Int) := by rw [ej]; omega
    have hdv : 0 ≤ (a : Int) / (k : Int) ∧ (a : Int) / (k : Int) ≤ (a : Int) := ⟨Int.ediv_nonneg (by omega) (by omega), Int.ediv_le_self _ (by omega)⟩
    clear ei ej
    have hki : ((k : Int) == 0) = false := by simp; omega
    have hni : ((n : Int) == 0) = false := by simp; omega
    clear hkk hc hbd h
    by_cases h200 : 200 < n
    · go_enter Tryz.func59, Tryz.ntmps59
      go_wp2
      go_quiet (fail)
      go_wp2
      go_quiet (fail)
      go_wp2
      go_ret
      have hv : 0 ≤ (x1 + (a : Int) / (k : Int) * 37) * 251 + x2 * 13 + (a : Int) := by omega
      refine ⟨(((x1 + (a : Int) / (k : Int) * 37) * 251 + x2 * 13 + (a : Int)) % (n : Int)).toNat, ?_, ?_, (hnx _).2, (hnx _).1⟩
      · have := Int.emod_lt_of_pos ((x1 + (a : Int) / (k : Int) * 37) * 251 + x2 * 13 + (a : Int)) (show (0 : Int) < n by omega)
        have := Int.emod_nonneg ((x1 + (a : Int) / (k : Int) * 37) * 251 + x2 * 13 + (a : Int)) (show (n : Int) ≠ 0 by omega)
        omega
      · apply ret_int
        have := Int.emod_nonneg ((x1 + (a : Int) / (k : Int) * 37) * 251 + x2 * 13 + (a : Int)) (show (n : Int) ≠ 0 by omega)
        rw [Int.toNat_of_nonneg this]
    · go_enter Tryz.func59, Tryz.ntmps59
      go_wp2
      go_quiet (fail)
      go_wp2
      go_ret
      have hv : 0 ≤ x1 + (a : Int) / (k : Int) * 37 := by omega
      refine ⟨((x1 + (a : Int) / (k : Int) * 37) % (n : Int)).toNat, ?_, ?_, (hnx _).2, (hnx _).1⟩
      · have := Int.emod_lt_of_pos (x1 + (a : Int) / (k : Int) * 37) (show (0 : Int) < n by omega)
        have := Int.emod_nonneg (x1 + (a : Int) / (k : Int) * 37) (show (n : Int) ≠ 0 by omega)
        omega
      · apply ret_int
        have := Int.emod_nonneg (x1 + (a : Int) / (k : Int) * 37) (show (n : Int) ≠ 0 by omega)
        rw [Int.toNat_of_nonneg this]
end U
end Go.Proofs.YtbjdplipgghndaaGreat
