/- Joined: what the texts behind it need. -/
import Derived.Test.YtffoogkojncooaaGreatDoorStr
import Derived.Test.YtffoogkojncooaaGreatDoorGJ
import Derived.Deep.AppendLies
/- Clashes: what both models answer. -/
namespace Go.Proofs.YtffoogkojncooaaGreatDoor
open Go.RowKit
namespace U
/-- Two pieces are a clash. -/
def arB (ls bs : List Int) : Bool := decide (ls.length ≤ 200 ∧ bs.length ≤ 200 ∧ sumL ls = sumL bs ∧ ¬ ls = bs)
theorem ar_iff (ls bs : List Int) : arB ls bs = true ↔ (ls.length ≤ 200 ∧ bs.length ≤ 200 ∧ sumL ls = sumL bs ∧ ¬ ls = bs) := by unfold arB; exact decide_eq_true_iff
theorem ar_not {ls bs : List Int} (h : ¬ (ls.length ≤ 200 ∧ bs.length ≤ 200 ∧ sumL ls = sumL bs ∧ ¬ ls = bs)) : arB ls bs = false := by unfold arB; exact decide_eq_false_iff_not.2 h
theorem ar_eq {ls bs : List Int} (h1 : ls.length ≤ 200) (h2 : bs.length ≤ 200) (h3 : sumL ls = sumL bs) : arB ls bs = !(decide (ls = bs)) := by
  unfold arB
  by_cases h : ls = bs
  · rw [decide_eq_true h]; exact decide_eq_false (fun e => e.2.2.2 h)
  · rw [decide_eq_false h]; exact decide_eq_true ⟨h1, h2, h3, h⟩
end U
end Go.Proofs.YtffoogkojncooaaGreatDoor

/- Clashes that are made: what both models answer. -/
namespace Go.Proofs.YtffoogkojncooaaGreatDoor
open Go.RowKit
namespace U
theorem three_cellsV {w : World} {b : Nat} {x y z : Value} {t : TypeId} (h : w.heap[b]? = some (.cells #[x, y, z] t (0, 0))) : w.cell? ⟨b, 0, none⟩ = some x ∧ w.cell? ⟨b, 1, none⟩ = some y ∧ w.cell? ⟨b, 2, none⟩ = some z ∧ w.frozen? ⟨b, 0, none⟩ = false ∧ w.frozen? ⟨b, 1, none⟩ = false ∧ w.frozen? ⟨b, 2, none⟩ = false := by
  simp [World.cell?, World.frozen?, h]
theorem four_cells {w : World} {b : Nat} {x y z u : Value} {t : TypeId} (h : w.heap[b]? = some (.cells #[x, y, z, u] t (0, 0))) : w.cell? ⟨b, 0, none⟩ = some x ∧ w.cell? ⟨b, 1, none⟩ = some y ∧ w.cell? ⟨b, 2, none⟩ = some z ∧ w.cell? ⟨b, 3, none⟩ = some u ∧ w.frozen? ⟨b, 0, none⟩ = false ∧ w.frozen? ⟨b, 1, none⟩ = false ∧ w.frozen? ⟨b, 2, none⟩ = false ∧ w.frozen? ⟨b, 3, none⟩ = false := by
  simp [World.cell?, World.frozen?, h]
def l2B (ls bs : List Int) : Bool := decide (sumL ls = sumL bs ∧ ¬ ls = bs)
theorem l2B_ar {ls bs : List Int} (h1 : ls.length ≤ 200) (h2 : bs.length ≤ 200) : arB ls bs = l2B ls bs := by
  unfold arB l2B
  rw [Bool.eq_iff_iff, decide_eq_true_iff, decide_eq_true_iff]
  exact ⟨fun h => h.2.2, fun h => ⟨h1, h2, h⟩⟩
def pick (f : Bool) (ls : List Int) : List Int := if f = true then ls else []
/-- What is handed back where two pieces may be a clash. -/
def Rows2 (w w' : World) (v1 v2 : Value) (f : Bool) (ls bs : List Int) : Prop :=
  w'.ownsRow w.heap.size 5 1 v1 (pick f ls).length ((pick f ls).map (Value.int .u8)) ∧ w'.ownsRow w.heap.size 5 1 v2 (pick f bs).length ((pick f bs).map (Value.int .u8)) ∧ ∀ k, v1.ownBlock = some k → ∀ j, v2.ownBlock = some j → k < j
theorem Rows2.nil (w w' : World) (ls bs : List Int) : Rows2 w w' (.slice none 0 0) (.slice none 0 0) false ls bs := ⟨World.ownsRow_nil _ _ _ _, World.ownsRow_nil _ _ _ _, fun k hk => by cases hk⟩
theorem Rows2.shape {w w' : World} {v1 v2 : Value} {f : Bool} {ls bs : List Int} (h : Rows2 w w' v1 v2 f ls bs) : (∃ a c, v1 = .slice a (pick f ls).length c) ∧ ∃ a c, v2 = .slice a (pick f bs).length c := ⟨own_shape h.1, own_shape h.2.1⟩
def Rows3 (w w' : World) (v1 v2 : Value) (xs ys : List Int) : Prop := w'.ownsRow (w.heap.size + 1) 5 1 v1 xs.length (xs.map (Value.int .u8)) ∧ w'.ownsRow (w.heap.size + 1) 5 1 v2 ys.length (ys.map (Value.int .u8)) ∧ ∀ k, v1.ownBlock = some k → ∀ j, v2.ownBlock = some j → k < j
theorem Rows3.set {w w' : World} {v1 v2 : Value} {xs ys : List Int} (h : Rows3 w w' v1 v2 xs ys) (i : Nat) (x : Value) : Rows3 w (w'.setCell ⟨w.heap.size, i, none⟩ x) v1 v2 xs ys :=
  ⟨ownsRow_setCell_below h.1 (by simp) _, ownsRow_setCell_below h.2.1 (by simp) _, h.2.2⟩
theorem Rows3.rows {w w' : World} {v1 v2 : Value} {f : Bool} {ls bs : List Int} (h : Rows3 w w' v1 v2 (pick f ls) (pick f bs)) : Rows2 w w' v1 v2 f ls bs := ⟨own_mono h.1 (by omega), own_mono h.2.1 (by omega), h.2.2⟩
def lkC (ls bs : List Int) : Int := if 200 < ls.length ∨ 200 < bs.length then 2 else 0
theorem lk_many {ls bs : List Int} (h : 200 < ls.length ∨ 200 < bs.length) : lkC ls bs = 2 ∧ arB ls bs = false := by
  refine ⟨by unfold lkC; rw [if_pos h], ar_not (fun e => by omega)⟩
theorem lk_ok {ls bs : List Int} (h : ¬ (200 < ls.length ∨ 200 < bs.length)) : lkC ls bs = 0 ∧ arB ls bs = l2B ls bs := by
  refine ⟨by unfold lkC; rw [if_neg h], l2B_ar (by omega) (by omega)⟩
def ClashAns (w : World) (code : Int) (f : Bool) (ls bs : List Int) (e : Ending) (w' : World) : Prop := Below w.heap.size w w' ∧ ∃ v1 v2, e = .returned (.agg #[.int .i64 code, .bool f, v1, v2]) ∧ Rows2 w w' v1 v2 f ls bs
end U
end Go.Proofs.YtffoogkojncooaaGreatDoor

/- Draws of chapter 2: some bytes, a pair of one sum, a clash, two pieces. -/
namespace Go.Proofs.YtffoogkojncooaaGreatDoor
open Go.RowKit
namespace U
theorem below_grown {w w' : World} {row : Option Nat} (h : Below w.heap.size w w') : w.grownBy w' row := ⟨h.os, h.tape, h.output, h.size, fun k hk _ => h.block k hk⟩
theorem own_snocB {w : World} {B : Nat} {e : TypeId} {k : IntKind} {v : Value} {zs ys : List Int} (h : w.ownsRow B e 1 v (zs.length + ys.length) (zs.map (Value.int k) ++ ys.map (Value.int k))) : w.ownsRow B e 1 v (zs ++ ys).length ((zs ++ ys).map (Value.int k)) := by
  rw [List.map_append, List.length_append]; exact h
theorem Bts.snoc {l m : List Int} (h : Bts l) (h2 : Bts m) : Bts (l ++ m) := by
  intro b hb
  rcases List.mem_append.1 hb with hb | hb
  · exact h b hb
  · exact h2 b hb
set_option maxHeartbeats 1000000 in
theorem lwBytes_any (v u : Value) (ls bs : List Int) (w : World) (hv : Ints .u8 w v ls) (hu : Ints .u8 w u bs) (ha : Bts ls) (hb : Bts bs) :
    Calls Tryz.prog 10 #[v, u] w fun e w' => e = .returned (.bool (decide (ls = bs))) ∧ w' = w := by
  have c1 := conv_str (P := Tryz.prog) 22 9 Tryz.underlying22 Tryz.underlying5 Tryz.underlying9 hv ha
  have c2 := conv_str (P := Tryz.prog) 22 9 Tryz.underlying22 Tryz.underlying5 Tryz.underlying9 hu hb
  have HI : Hid ((sOf ls = sOf bs) ↔ ls = bs) := sOf_inj ha hb
  obtain ⟨a, c, rfl⟩ := hv.shape
  obtain ⟨a', c', rfl⟩ := hu.shape
  generalize sOf ls = s at *
  generalize sOf bs = t at *
  generalize ls.length = n at *
  generalize bs.length = m at *
  clear hv hu ha hb
  go_enter Tryz.func10, Tryz.ntmps10
  go_wp2
  go_ret
  exact ⟨ret_bool (by rw [Bool.eq_iff_iff, beq_iff_eq, decide_eq_true_iff, ← HI.out]; exact toList_iff s t), rfl⟩
/-- Two pieces of one's own, apart from what was there. -/
def Two (B : Nat) (w : World) (v u : Value) (ls bs : List Int) : Prop := w.ownsRow B 5 1 v ls.length (ls.map (Value.int .u8)) ∧ w.ownsRow B 5 1 u bs.length (bs.map (Value.int .u8)) ∧ Bts ls ∧ Bts bs ∧ ls.length ≤ 201 ∧ bs.length ≤ 201
theorem Two.grown {B : Nat} {w w' : World} {v u : Value} {ls bs : List Int} {row : Option Nat} (h : Two B w v u ls bs) (hg : w.grownBy w' row) (hr : ∀ k, row = some k → k < B) : Two B w' v u ls bs :=
  ⟨own_grown h.1 hg (by
    rcases hk : v.ownBlock with _ | k
    · exact Or.inl rfl
    · exact Or.inr (fun e => by have := (h.1.lt k hk).1; have := hr k e.symm; omega)), own_grown h.2.1 hg (by
    rcases hk : u.ownBlock with _ | k
    · exact Or.inl rfl
    · exact Or.inr (fun e => by have := (h.2.1.lt k hk).1; have := hr k e.symm; omega)), h.2.2⟩
theorem Two.below {B : Nat} {w w' : World} {v u : Value} {ls bs : List Int} (h : Two B w v u ls bs) (hb : Below w.heap.size w w') : Two B w' v u ls bs := ⟨own_below h.1 hb, own_below h.2.1 hb, h.2.2⟩
theorem Two.mono {B B' : Nat} {w : World} {v u : Value} {ls bs : List Int} (h : Two B' w v u ls bs) (hB : B ≤ B') : Two B w v u ls bs := ⟨own_mono h.1 hB, own_mono h.2.1 hB, h.2.2⟩
theorem own_setAt {w : World} {B : Nat} {e : TypeId} {g n cap : Nat} {l : List Int} (h : w.ownsRow B e 1 (.slice (some ⟨g, 0, none⟩) n cap) n (l.map (Value.int .u8))) (i : Nat) (x : Int) : (w.setCell ⟨g, i, none⟩ (.int .u8 x)).ownsRow B e 1 (.slice (some ⟨g, 0, none⟩) n cap) n ((l.set i x).map (Value.int .u8)) ∧ w.grownBy (w.setCell ⟨g, i, none⟩ (.int .u8 x)) (some g) := by
  obtain ⟨s1, s2⟩ := h.stored i (.int .u8 x)
  rw [← List.map_set] at s1
  exact ⟨s1, s2⟩
theorem setCellD_grown (w : World) (g i : Nat) (v : Value) : w.grownBy (w.setCell ⟨g, i, none⟩ v) (some g) := ⟨rfl, rfl, rfl, by simp, fun k _ hk => heap_setCell_other w ⟨g, i, none⟩ k v (fun e => hk (by simp [e]))⟩
end U
end Go.Proofs.YtffoogkojncooaaGreatDoor
