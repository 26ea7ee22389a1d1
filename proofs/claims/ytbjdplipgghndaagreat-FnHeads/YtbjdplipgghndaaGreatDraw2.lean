/- What is drawn from a source: a text that may be bent. -/
import Derived.Test.YtbjdplipgghndaaGreatDraw1
import Derived.ArgAppend
namespace Go.Proofs.YtbjdplipgghndaaGreat
open Go.RowKit
namespace U
/-- A row of bytes as a text's conversion lays it: room for cap, the first ones known. -/
def Row0 (w : World) (g cap : Nat) (l : List Int) : Prop := ∃ cur fz, w.heap[g]? = some (.cells cur 5 fz) ∧ cur.size = cap ∧ cap ≤ fz.1 ∧ l.length ≤ cap ∧ (∀ j, j < l.length → cur[j]? = some (.int .u8 (l.getD j 0))) ∧ ∀ b ∈ l, 0 ≤ b ∧ b ≤ 255
theorem Row0.cell {w : World} {g cap : Nat} {l : List Int} (h : Row0 w g cap l) {j : Nat} (hj : j < l.length) : w.cell? ⟨g, j, none⟩ = some (.int .u8 (l.getD j 0)) := by
  obtain ⟨cur, fz, h1, h2, h3, h4, h5, _⟩ := h
  rw [cell_of_row w g j cur _ fz h1]; exact h5 j hj
theorem Row0.ex {w : World} {g cap : Nat} {l : List Int} (h : Row0 w g cap l) {j : Nat} (hj : j < cap) : ∃ x, w.cell? ⟨g, j, none⟩ = some x := by
  obtain ⟨cur, fz, h1, h2, _⟩ := h
  exact ⟨_, (cell_of_row w g j cur _ fz h1).trans (Array.getElem?_eq_getElem (by omega))⟩
theorem Row0.free {w : World} {g cap : Nat} {l : List Int} (h : Row0 w g cap l) {j : Nat} (hj : j < cap) : w.frozen? ⟨g, j, none⟩ = false := by
  obtain ⟨cur, fz, h1, h2, h3, _⟩ := h
  unfold World.frozen?
  rw [h1]
  simp
  omega
theorem Row0.lt {w : World} {g cap : Nat} {l : List Int} (h : Row0 w g cap l) : g < w.heap.size := by
  obtain ⟨cur, fz, h1, _⟩ := h
  exact (Array.getElem?_eq_some_iff.1 h1).1
theorem Row0.grown {w w' : World} {g cap : Nat} {l : List Int} {row : Option Nat} (h : Row0 w g cap l) (hg : w.grownBy w' row) (hne : some g ≠ row) : Row0 w' g cap l := by
  have hlt := h.lt
  obtain ⟨cur, fz, h1, h2⟩ := h
  exact ⟨cur, fz, (hg.block g hlt hne).trans h1, h2⟩
theorem Row0.bd {w : World} {g cap : Nat} {l : List Int} (h : Row0 w g cap l) : ∀ b ∈ l, 0 ≤ b ∧ b ≤ 255 := by
  obtain ⟨_, _, _, _, _, _, _, hbd⟩ := h
  exact hbd
theorem Row0.conv {w : World} {g cap : Nat} {l : List Int} (h : Row0 w g cap l) : (convert 22 9 (.slice (some ⟨g, 0, none⟩) l.length cap)).run Tryz.prog w = .ok (.string (strOf l)) w := by
  have hb := h
  obtain ⟨_, _, _, _, _, _, _, hbd⟩ := hb
  have hc := conv_back (P := Tryz.prog) w 22 9 5 g 0 cap (strOf l) Tryz.underlying22 Tryz.underlying5 Tryz.underlying9 (fun j hj => by rw [strOf_size] at hj; rw [Nat.zero_add, h.cell hj, bt_strOf l hbd j hj])
  rw [strOf_size] at hc
  exact hc
theorem Row0.start (w : World) (s : ByteArray) (cap : Nat) (hcap : s.size ≤ cap) : Row0 (w.alloc (.cells (bytesRow s cap) 5 ((bytesRow s cap).size, (bytesRow s cap).size + 1))).drew w.heap.size cap (s.data.toList.map fun b => (b.toNat : Int)) := by
  have hl := Lib.size_eq s
  have hsz : (bytesRow s cap).size = cap := by
    show (s.data.map _ ++ Array.replicate (cap - s.size) _).size = cap
    rw [Array.size_append, Array.size_map, Array.size_replicate]
    have : s.data.size = s.size := rfl
    omega
  refine ⟨bytesRow s cap, _, heap_alloc_new w _, hsz, by rw [hsz]; exact Nat.le_refl _, by simp; exact hcap, fun j hj => ?_, fun b hb => ?_⟩
  · have hj2 : j < s.data.toList.length := by simpa using hj
    unfold bytesRow
    rw [Array.getElem?_append_left (by simpa using hj2)]
    have hj3 : j < s.data.size := by simpa using hj2
    rw [Array.getElem?_map, Array.getElem?_eq_getElem hj3]
    simp only [List.getD_eq_getElem?_getD, List.getElem?_map, Array.getElem?_toList, Array.getElem?_eq_getElem hj3, Option.map_some, Option.getD_some]
  · simp at hb
    obtain ⟨x, _, rfl⟩ := hb
    have := x.toNat_lt
    omega
theorem Row0.set {w : World} {g cap : Nat} {l : List Int} (h : Row0 w g cap l) (i : Nat) (x : Int) (hx : 0 ≤ x ∧ x ≤ 255) : Row0 (w.setCell ⟨g, i, none⟩ (.int .u8 x)) g cap (l.set i x) := by
  obtain ⟨cur, fz, h1, h2, h3, h4, h5, h6⟩ := h
  have hh : (w.setCell ⟨g, i, none⟩ (.int .u8 x)).heap[g]? = some (.cells (cur.setIfInBounds i (.int .u8 x)) 5 fz) := by
    simp [World.setCell, Array.getElem?_modify, h1]
  refine ⟨_, fz, hh, by simpa using h2, h3, by simpa using h4, fun j hj => ?_, fun b hb => ?_⟩
  · have hj2 : j < l.length := by simpa using hj
    rw [Array.getElem?_setIfInBounds]
    by_cases e : i = j
    · subst e
      rw [if_pos rfl, if_pos (by omega)]
      simp [hj2]
    · rw [if_neg e, h5 j hj2]
      simp [e]
  · rcases List.mem_or_eq_of_mem_set hb with hb | rfl
    · exact h6 b hb
    · exact hx
/-- Writing a row on from a place. -/
theorem Row0.sets {g cap : Nat} : ∀ (ns : List Int) (w : World) (l : List Int), Row0 w g cap l → l.length + ns.length ≤ cap → (∀ b ∈ ns, 0 ≤ b ∧ b ≤ 255) → Row0 (w.setCells g l.length (ns.map (Value.int .u8))) g cap (l ++ ns)
  | [], w, l, h, _, _ => by simpa [World.setCells] using h
  | n :: ns, w, l, h, hc, hb => by
    have h1 : Row0 (w.setCell ⟨g, l.length, none⟩ (.int .u8 n)) g cap (l ++ [n]) := by
      obtain ⟨cur, fz, h1, h2, h3, h4, h5, h6⟩ := h
      have hh : (w.setCell ⟨g, l.length, none⟩ (.int .u8 n)).heap[g]? = some (.cells (cur.setIfInBounds l.length (.int .u8 n)) 5 fz) := by
        simp [World.setCell, Array.getElem?_modify, h1]
      simp only [List.length_cons] at hc
      refine ⟨_, fz, hh, by simpa using h2, h3, by simp; omega, fun j hj => ?_, fun b hbb => ?_⟩
      · rw [Array.getElem?_setIfInBounds]
        by_cases e : l.length = j
        · subst e
          rw [if_pos rfl, if_pos (by omega)]
          simp
        · have hj2 : j < l.length := by simp at hj; omega
          rw [if_neg e, h5 j hj2]
          simp [List.getElem?_append_left hj2]
      · rcases List.mem_append.1 hbb with hbb | hbb
        · exact h6 b hbb
        · simp at hbb; subst hbb; exact hb _ (by simp)
    have h2 := Row0.sets ns _ (l ++ [n]) h1 (by simp at hc ⊢; omega) (fun b hbb => hb b (by simp [hbb]))
    simp only [List.map_cons, World.setCells]
    simpa using h2
theorem setCells_grown (g : Nat) : ∀ (vs : List Value) (o : Nat) (w : World), w.grownBy (w.setCells g o vs) (some g)
  | [], _, w => World.grownBy.refl w _
  | v :: r, o, w => by
    have h1 : w.grownBy (w.setCell ⟨g, o, none⟩ v) (some g) := ⟨rfl, rfl, rfl, by simp, fun k _ hk => heap_setCell_other w ⟨g, o, none⟩ k v (fun e => hk (by simp [e]))⟩
    exact grown_trans h1 (setCells_grown g r (o + 1) _)
theorem grown_drew {a b : World} {row : Option Nat} (h : a.grownBy b row) : a.grownBy b.drew row := ⟨h.os, h.tape, h.output, h.size, h.block⟩
theorem setCell_grown (w : World) (g i : Nat) (v : Value) : w.grownBy (w.setCell ⟨g, i, none⟩ v) (some g) := ⟨rfl, rfl, rfl, by simp, fun k _ hk => heap_setCell_other w ⟨g, i, none⟩ k v (fun e => hk (by simp [e]))⟩
/-- What a bent draw leaves. -/
def BentAns (q a : Nat) (cv : Value) (cs : List Int) (w : World) (e : Ending) (w' : World) : Prop := ∃ t : ByteArray, t.size ≤ 20 ∧ e = .returned (.string t) ∧ w.grownBy w' (some q) ∧ ∃ a', a ≤ a' ∧ a' ≤ a + 8 ∧ SrcAt q cv cs a' w'
set_option maxHeartbeats 4000000 in
theorem l1Bent_any (q a : Nat) (cv : Value) (cs : List Int) (w : World) (h : SrcAt q cv cs a w) (ha : a ≤ 10000) :
    Calls Tryz.prog 151 #[.pointer (some ⟨q, 0, none⟩)] w fun e w' => BentAns q a cv cs w e w' := by
  obtain ⟨i0, hi, hz0, hz1, hz2⟩ := info_parts Tryz.infoU8
  have hq := h.lt
  have kc := fun (w : World) (s : ByteArray) => run_bytes_of_string (P := Tryz.prog) w 9 22 5 s Tryz.underlying9 Tryz.underlying22 Tryz.underlying5
  go_enter Tryz.func151, Tryz.ntmps151
  go_wp2_with fail
  refine (l1Draw_any q a cv cs _ h ha).mono ?_
  rintro e w1 ⟨t, ht1, ht2, rfl, hg1, a1, ha1, ha1', hs1⟩
  have hw1 := hg1.size
  have hcap := grownCap_ge w1 t.size 0 5
  obtain ⟨cap, hcp⟩ : ∃ cap, cap = grownCap w1 t.size 0 5 := ⟨_, rfl⟩
  have hrow := Row0.start w1 t (grownCap w1 t.size 0 5) hcap
  have hg2 : w.grownBy (w1.alloc (.cells (bytesRow t (grownCap w1 t.size 0 5)) 5 ((bytesRow t (grownCap w1 t.size 0 5)).size, (bytesRow t (grownCap w1 t.size 0 5)).size + 1))).drew (some q) := grown_drew (grown_new hg1 (World.grownBy_alloc w1 _ none) (fun g e => by cases e))
  have hs2 : SrcAt q cv cs a1 (w1.alloc (.cells (bytesRow t (grownCap w1 t.size 0 5)) 5 ((bytesRow t (grownCap w1 t.size 0 5)).size, (bytesRow t (grownCap w1 t.size 0 5)).size + 1))).drew := (hs1.alloc _)
  have hkc := kc w1 t
  clear kc
  go_wp2_with fail
  refine (l1Next_any q a1 cv cs 8 _ hs2 (by omega) (by omega) (by omega)).mono ?_
  rintro e w3 ⟨r, hr, rfl, hg3, hs3⟩
  have hrow3 := hrow.grown hg3 (fun e => by have := Option.some.inj e; omega)
  have hg33 := grown_trans hg2 hg3
  clear hg3 hg2 hs2 hs1 hg1 hrow hkc
  rw [← hcp] at hcap hrow3 ⊢
  clear hcp
  have hlen : (t.data.toList.map fun b => (b.toNat : Int)).length = t.size := by rw [List.length_map, ← Lib.size_eq]
  generalize (t.data.toList.map fun b => (b.toNat : Int)) = l at *
  rcases (show r = 0 ∨ r = 1 ∨ r = 2 ∨ r = 3 ∨ 4 ≤ r by omega) with rfl | rfl | rfl | rfl | hr4
  · have hts : (t.size : Int) = ((t.size : Nat) : Int) := rfl
    go_wp2_with fail
    refine (l1Next_any q (a1 + 1) cv cs t.size _ hs3 (by omega) ht1 (by omega)).mono ?_
    rintro e w4 ⟨i, hi4, rfl, hg4, hs4⟩
    have hrow4 := hrow3.grown hg4 (fun e => by have := Option.some.inj e; omega)
    have hg44 := grown_trans hg33 hg4
    have hw4 := hg4.size
    have hq4 := hs4.lt
    clear hg4 hs3 hrow3 hg33 hts
    go_wp2_with fail
    refine (l1Pick_any q (a1 + 1 + 1) cv cs _ [128, 192, 237, 255, 32, 240, 127] _ (hs4.alloc _) (by omega) (lit_ints .i64 [128, 192, 237, 255, 32, 240, 127] 2 7) (by simp [Value.ownBlock]; omega) (by decide) (by decide)).mono ?_
    rintro e w5 ⟨x, hx, rfl, hg5, hs5⟩
    have hrow5 := (hrow4.grown (World.grownBy_alloc w4 _ none) (by simp)).grown hg5 (fun e => by have := Option.some.inj e; omega)
    have hg55 := grown_trans (grown_new hg44 (World.grownBy_alloc w4 _ none) (fun g e => by cases e)) hg5
    have hxb : 0 ≤ x ∧ x ≤ 255 := by simp at hx; omega
    have hwx := wrapU8 x hxb.1 (by omega)
    have hii : (i : Int) < (t.size : Int) := by omega
    obtain ⟨y, hy⟩ := hrow5.ex (j := i) (by omega)
    have hfz := hrow5.free (j := i) (by omega)
    have hrow6 := hrow5.set i x hxb
    have hcv := hrow6.conv
    rw [List.length_set, hlen] at hcv
    have hg6 := grown_new hg55 (setCell_grown w5 w1.heap.size i (.int .u8 x)) (fun g e => by cases e; exact hw1)
    have hs6 := hs5.grown (setCell_grown w5 w1.heap.size i (.int .u8 x)) (fun k e => by cases e; omega)
    clear hrow4 hrow5 hrow6 hg5 hs4 hg44 hx
    go_wp2
    go_ret
    exact ⟨_, by rw [strOf_size, List.length_set]; omega, rfl, hg6, _, by omega, by omega, hs6⟩
  · have hnb : ∀ b ∈ ([97, 98, 99, 100, 101, 102, 103, 104] : List Int), 0 ≤ b ∧ b ≤ 255 := by intro b hb; simp at hb; omega
    have hal := hrow3.grown (World.grownBy_alloc w3 (.cells #[.int .u8 97, .int .u8 98, .int .u8 99, .int .u8 100, .int .u8 101, .int .u8 102, .int .u8 103, .int .u8 104] 5) none) (by simp)
    have hw3 := hs3.lt
    have hg34 := grown_new hg33 (World.grownBy_alloc w3 (.cells #[.int .u8 97, .int .u8 98, .int .u8 99, .int .u8 100, .int .u8 101, .int .u8 102, .int .u8 103, .int .u8 104] 5) none) (fun g e => by cases e)
    have hs34 := hs3.alloc (.cells #[.int .u8 97, .int .u8 98, .int .u8 99, .int .u8 100, .int .u8 101, .int .u8 102, .int .u8 103, .int .u8 104] 5)
    have hold : Hid (∀ j u, (l.map (Value.int .u8))[j]? = some u → (w3.alloc (.cells #[.int .u8 97, .int .u8 98, .int .u8 99, .int .u8 100, .int .u8 101, .int .u8 102, .int .u8 103, .int .u8 104] 5)).cell? ⟨w1.heap.size, 0 + j, none⟩ = some u) := by
      show ∀ j u, _ → _
      intro j u hu
      have hj : j < l.length := by have := (List.getElem?_eq_some_iff.1 hu).1; simpa using this
      rw [Nat.zero_add, hal.cell hj]
      simp [hj] at hu
      rw [← hu]
      simp [hj]
    have hspare : Hid (t.size + 8 ≤ cap → ∀ j, j < 8 → ((w3.alloc (.cells #[.int .u8 97, .int .u8 98, .int .u8 99, .int .u8 100, .int .u8 101, .int .u8 102, .int .u8 103, .int .u8 104] 5)).cell? ⟨w1.heap.size, 0 + t.size * 1 + j, none⟩).isSome = true ∧ (w3.alloc (.cells #[.int .u8 97, .int .u8 98, .int .u8 99, .int .u8 100, .int .u8 101, .int .u8 102, .int .u8 103, .int .u8 104] 5)).frozen? ⟨w1.heap.size, 0 + t.size * 1 + j, none⟩ = false) := by
      show _ → _
      intro hc j hj
      obtain ⟨y, hy⟩ := hal.ex (j := 0 + t.size * 1 + j) (by omega)
      exact ⟨by rw [hy]; rfl, hal.free (by omega)⟩
    have hroomF : Hid (t.size + 8 ≤ cap → (convert 22 9 (.slice (some ⟨w1.heap.size, 0, none⟩) (t.size + 8) cap)).run Tryz.prog ((w3.alloc (.cells #[.int .u8 97, .int .u8 98, .int .u8 99, .int .u8 100, .int .u8 101, .int .u8 102, .int .u8 103, .int .u8 104] 5)).setCells w1.heap.size t.size ([Value.int .u8 97, Value.int .u8 98, Value.int .u8 99, Value.int .u8 100, Value.int .u8 101, Value.int .u8 102, Value.int .u8 103, Value.int .u8 104] : List Value)) = .ok (.string (strOf (l ++ [97, 98, 99, 100, 101, 102, 103, 104]))) ((w3.alloc (.cells #[.int .u8 97, .int .u8 98, .int .u8 99, .int .u8 100, .int .u8 101, .int .u8 102, .int .u8 103, .int .u8 104] 5)).setCells w1.heap.size t.size ([Value.int .u8 97, Value.int .u8 98, Value.int .u8 99, Value.int .u8 100, Value.int .u8 101, Value.int .u8 102, Value.int .u8 103, Value.int .u8 104] : List Value))) := by
      show _ → _
      intro hc
      have h1 := Row0.sets ([97, 98, 99, 100, 101, 102, 103, 104]) _ l hal (by simp; omega) hnb
      have h2 := h1.conv
      rw [hlen] at h2
      simpa [hlen] using h2
    go_wp2_with (at_builtin; refine wpList_append_arg _ rfl _ _ 22 rfl 5 i0 (.int .u8 0) 1 1 Tryz.underlying22 hi hz0 hz1 hz2 rfl (by decide) w1.heap.size 0 t.size cap (l.map (Value.int .u8)) rfl (by simp; omega) hold.out ⟨w3.heap.size, 0, none⟩ 8 8 ([Value.int .u8 97, Value.int .u8 98, Value.int .u8 99, Value.int .u8 100, Value.int .u8 101, Value.int .u8 102, Value.int .u8 103, Value.int .u8 104] : List Value) rfl rfl (World.news_of_block (heap_alloc_new w3 _)) (by simp [Value.oneCell']) hspare.out (by unfold maxLen; omega) (by omega) ?_ ?_)
    · intro hc
      have hcv := hroomF.out hc
      have hgs := setCells_grown w1.heap.size ([Value.int .u8 97, Value.int .u8 98, Value.int .u8 99, Value.int .u8 100, Value.int .u8 101, Value.int .u8 102, Value.int .u8 103, Value.int .u8 104] : List Value) t.size (w3.alloc (.cells #[.int .u8 97, .int .u8 98, .int .u8 99, .int .u8 100, .int .u8 101, .int .u8 102, .int .u8 103, .int .u8 104] 5))
      have hg5 := grown_new hg34 hgs (fun g e => by cases e; exact hw1)
      have hs5 := hs34.grown hgs (fun k e => by cases e; omega)
      generalize (w3.alloc (.cells #[.int .u8 97, .int .u8 98, .int .u8 99, .int .u8 100, .int .u8 101, .int .u8 102, .int .u8 103, .int .u8 104] 5)).setCells w1.heap.size t.size ([Value.int .u8 97, Value.int .u8 98, Value.int .u8 99, Value.int .u8 100, Value.int .u8 101, Value.int .u8 102, Value.int .u8 103, Value.int .u8 104] : List Value) = w5 at *
      have HL : Hid (l.length = t.size) := hlen
      clear hgs hroomF hspare hold hal hnb hrow3 hg34 hs34 hs3 hg33 hlen hi hz0 hz1 hz2 hr h
      go_wp2
      go_ret
      exact ⟨_, by rw [strOf_size, List.length_append, HL.out]; simp; omega, rfl, hg5, _, by omega, by omega, hs5⟩
    · intro hc v5 w5 hown5 hgr5
      have hcv := conv_own (P := Tryz.prog) (l := l ++ [97, 98, 99, 100, 101, 102, 103, 104]) 22 9 Tryz.underlying22 Tryz.underlying5 Tryz.underlying9 (by rw [List.map_append, List.length_append, hlen]; exact hown5) (by intro b hb; rcases List.mem_append.1 hb with hb | hb; exact hrow3.bd b hb; exact hnb b hb)
      have hg5 := grown_new hg34 hgr5 (fun g e => by cases e)
      have hs5 := hs34.grown hgr5 (fun k e => by cases e)
      obtain ⟨x5, c5, rfl⟩ := own_shape hown5
      have HL : Hid (l.length = t.size) := hlen
      clear hroomF hspare hold hal hown5 hgr5 hnb hrow3 hg34 hs34 hs3 hg33 hlen hi hz0 hz1 hz2 hr h
      go_wp2
      go_ret
      exact ⟨_, by rw [strOf_size, List.length_append, HL.out]; simp; omega, rfl, hg5, _, by omega, by omega, hs5⟩
  · have hown := World.ownsRow_lit (base := w.heap.size) (e := 5) (size := 1) w3 #[] 0 (by have := hg33.size; omega) (by decide) rfl
    have hcv := conv_own (P := Tryz.prog) (l := []) 22 9 Tryz.underlying22 Tryz.underlying5 Tryz.underlying9 hown (by simp)
    have hg5 := grown_new hg33 (World.grownBy_alloc w3 (.cells #[] 5) none) (fun g e => by cases e)
    have hs5 := hs3.alloc (.cells #[] 5)
    clear hown
    go_wp2
    go_ret
    exact ⟨strOf [], by rw [strOf_size]; simp, rfl, hg5, _, by omega, by omega, hs5⟩
  · have hnb : ∀ b ∈ ([237, 160, 128] : List Int), 0 ≤ b ∧ b ≤ 255 := by intro b hb; simp at hb; omega
    have hal := hrow3.grown (World.grownBy_alloc w3 (.cells #[.int .u8 237, .int .u8 160, .int .u8 128] 5) none) (by simp)
    have hw3 := hs3.lt
    have hg34 := grown_new hg33 (World.grownBy_alloc w3 (.cells #[.int .u8 237, .int .u8 160, .int .u8 128] 5) none) (fun g e => by cases e)
    have hs34 := hs3.alloc (.cells #[.int .u8 237, .int .u8 160, .int .u8 128] 5)
    have hold : Hid (∀ j u, (l.map (Value.int .u8))[j]? = some u → (w3.alloc (.cells #[.int .u8 237, .int .u8 160, .int .u8 128] 5)).cell? ⟨w1.heap.size, 0 + j, none⟩ = some u) := by
      show ∀ j u, _ → _
      intro j u hu
      have hj : j < l.length := by have := (List.getElem?_eq_some_iff.1 hu).1; simpa using this
      rw [Nat.zero_add, hal.cell hj]
      simp [hj] at hu
      rw [← hu]
      simp [hj]
    have hspare : Hid (t.size + 3 ≤ cap → ∀ j, j < 3 → ((w3.alloc (.cells #[.int .u8 237, .int .u8 160, .int .u8 128] 5)).cell? ⟨w1.heap.size, 0 + t.size * 1 + j, none⟩).isSome = true ∧ (w3.alloc (.cells #[.int .u8 237, .int .u8 160, .int .u8 128] 5)).frozen? ⟨w1.heap.size, 0 + t.size * 1 + j, none⟩ = false) := by
      show _ → _
      intro hc j hj
      obtain ⟨y, hy⟩ := hal.ex (j := 0 + t.size * 1 + j) (by omega)
      exact ⟨by rw [hy]; rfl, hal.free (by omega)⟩
    have hroomF : Hid (t.size + 3 ≤ cap → (convert 22 9 (.slice (some ⟨w1.heap.size, 0, none⟩) (t.size + 3) cap)).run Tryz.prog ((w3.alloc (.cells #[.int .u8 237, .int .u8 160, .int .u8 128] 5)).setCells w1.heap.size t.size ([Value.int .u8 237, Value.int .u8 160, Value.int .u8 128] : List Value)) = .ok (.string (strOf (l ++ [237, 160, 128]))) ((w3.alloc (.cells #[.int .u8 237, .int .u8 160, .int .u8 128] 5)).setCells w1.heap.size t.size ([Value.int .u8 237, Value.int .u8 160, Value.int .u8 128] : List Value))) := by
      show _ → _
      intro hc
      have h1 := Row0.sets ([237, 160, 128]) _ l hal (by simp; omega) hnb
      have h2 := h1.conv
      rw [hlen] at h2
      simpa [hlen] using h2
    go_wp2_with (at_builtin; refine wpList_append_arg _ rfl _ _ 22 rfl 5 i0 (.int .u8 0) 1 1 Tryz.underlying22 hi hz0 hz1 hz2 rfl (by decide) w1.heap.size 0 t.size cap (l.map (Value.int .u8)) rfl (by simp; omega) hold.out ⟨w3.heap.size, 0, none⟩ 3 3 ([Value.int .u8 237, Value.int .u8 160, Value.int .u8 128] : List Value) rfl rfl (World.news_of_block (heap_alloc_new w3 _)) (by simp [Value.oneCell']) hspare.out (by unfold maxLen; omega) (by omega) ?_ ?_)
    · intro hc
      have hcv := hroomF.out hc
      have hgs := setCells_grown w1.heap.size ([Value.int .u8 237, Value.int .u8 160, Value.int .u8 128] : List Value) t.size (w3.alloc (.cells #[.int .u8 237, .int .u8 160, .int .u8 128] 5))
      have hg5 := grown_new hg34 hgs (fun g e => by cases e; exact hw1)
      have hs5 := hs34.grown hgs (fun k e => by cases e; omega)
      generalize (w3.alloc (.cells #[.int .u8 237, .int .u8 160, .int .u8 128] 5)).setCells w1.heap.size t.size ([Value.int .u8 237, Value.int .u8 160, Value.int .u8 128] : List Value) = w5 at *
      have HL : Hid (l.length = t.size) := hlen
      clear hgs hroomF hspare hold hal hnb hrow3 hg34 hs34 hs3 hg33 hlen hi hz0 hz1 hz2 hr h
      go_wp2
      go_ret
      exact ⟨_, by rw [strOf_size, List.length_append, HL.out]; simp; omega, rfl, hg5, _, by omega, by omega, hs5⟩
    · intro hc v5 w5 hown5 hgr5
      have hcv := conv_own (P := Tryz.prog) (l := l ++ [237, 160, 128]) 22 9 Tryz.underlying22 Tryz.underlying5 Tryz.underlying9 (by rw [List.map_append, List.length_append, hlen]; exact hown5) (by intro b hb; rcases List.mem_append.1 hb with hb | hb; exact hrow3.bd b hb; exact hnb b hb)
      have hg5 := grown_new hg34 hgr5 (fun g e => by cases e)
      have hs5 := hs34.grown hgr5 (fun k e => by cases e)
      obtain ⟨x5, c5, rfl⟩ := own_shape hown5
      have HL : Hid (l.length = t.size) := hlen
      clear hroomF hspare hold hal hown5 hgr5 hnb hrow3 hg34 hs34 hs3 hg33 hlen hi hz0 hz1 hz2 hr h
      go_wp2
      go_ret
      exact ⟨_, by rw [strOf_size, List.length_append, HL.out]; simp; omega, rfl, hg5, _, by omega, by omega, hs5⟩
  · have e0 : ((r : Int) == 0) = false := by simp; omega
    have e1 : ((r : Int) == 1) = false := by simp; omega
    have e2 : ((r : Int) == 2) = false := by simp; omega
    have e3 : ((r : Int) == 3) = false := by simp; omega
    have hcv := hrow3.conv
    rw [hlen] at hcv
    go_wp2
    go_ret
    exact ⟨_, by rw [strOf_size]; omega, rfl, hg33, _, by omega, by omega, hs3⟩
end U
end Go.Proofs.YtbjdplipgghndaaGreat
