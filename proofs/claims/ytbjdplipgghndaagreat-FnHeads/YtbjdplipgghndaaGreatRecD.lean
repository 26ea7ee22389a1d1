/- Draws of records. -/
import Derived.Test.YtbjdplipgghndaaGreatRec2
import Derived.Test.YtbjdplipgghndaaGreatRecW
import Derived.Test.YtbjdplipgghndaaGreatDraw2
import Derived.Test.YtbjdplipgghndaaGreatFold
namespace Go.Proofs.YtbjdplipgghndaaGreat
open Go.RowKit
namespace U
/-- A record that was drawn: it is small. -/
structure RecSm (l : ByteArray) (v o p : Int) : Prop where
  s1 : 1 ≤ l.size
  s12 : l.size ≤ 12
  v0 : 1 ≤ v
  v1 : v ≤ 3
  o0 : 0 ≤ o
  o1 : o ≤ 3
  p0 : 0 ≤ p
  p1 : p ≤ 65520
theorem RecSm.sums {l : ByteArray} {v o p : Int} (h : RecSm l v o p) : [v, o, p].all sumB = true := by
  have h0 : sumB v = true := (sumB_iff v).2 ⟨by have := h.v0; omega, by have := h.v1; omega⟩
  have h1 : sumB o = true := (sumB_iff o).2 ⟨h.o0, by have := h.o1; omega⟩
  have h2 : sumB p = true := (sumB_iff p).2 ⟨h.p0, h.p1⟩
  simp [h0, h1, h2]
theorem packL_bts_sm {l : ByteArray} {v o p : Int} (h : RecSm l v o p) : Bts (packL l v o p) := by
  intro b hb
  obtain ⟨hs1, hs, h1, h2, h3, h4, h5, h6⟩ := h
  unfold packL headL at hb
  simp only [List.mem_append, List.mem_cons, List.not_mem_nil, or_false] at hb
  rcases hb with (rfl | rfl | hb) | hb
  · omega
  · omega
  · exact bl_bts l b hb
  · omega
theorem ro_blk {w w' : World} {g : Nat} {l : ByteArray} {v o p : Int} (h : RecOwn w g l v o p) (hb : w'.heap[g]? = w.heap[g]?) : RecOwn w' g l v o p := by
  have e : ∀ i, w'.cell? ⟨g, i, none⟩ = w.cell? ⟨g, i, none⟩ := fun i => by unfold World.cell?; rw [hb]
  have f : ∀ i, w'.frozen? ⟨g, i, none⟩ = w.frozen? ⟨g, i, none⟩ := fun i => by unfold World.frozen?; rw [hb]
  exact ⟨⟨(e 0).trans h.c0, (e 1).trans h.c1, (e 2).trans h.c2, (e 3).trans h.c3⟩, (f 0).trans h.f0, (f 1).trans h.f1, (f 2).trans h.f2, (f 3).trans h.f3⟩
theorem src_below {q a : Nat} {cv : Value} {cs : List Int} {w w' : World} (h : SrcAt q cv cs a w) (hb : Below w.heap.size w w') : SrcAt q cv cs a w' := h.grown (row := none) ⟨hb.os, hb.tape, hb.output, hb.size, fun k hk _ => hb.block k hk⟩ (fun k hk => by cases hk)
theorem below_gr {w w' : World} {row : Option Nat} (h : Below w.heap.size w w') : w.grownBy w' row := ⟨h.os, h.tape, h.output, h.size, fun k hk _ => h.block k hk⟩
set_option maxRecDepth 100000 in
set_option maxHeartbeats 2000000 in
theorem l3Draw_any (q a : Nat) (cv : Value) (cs : List Int) (w : World) (h : SrcAt q cv cs a w) (ha : a ≤ 1000) :
    Calls Tryz.prog 150 #[.pointer (some ⟨q, 0, none⟩)] w fun e w' => ∃ (l : ByteArray) (v o p : Int) (a' : Nat), e = .returned (recV l v o p) ∧ RecSm l v o p ∧ w.grownBy w' (some q) ∧ a' ≤ a + 10 ∧ SrcAt q cv cs a' w' := by
  have hq := h.lt
  obtain ⟨W0, hW0⟩ : ∃ W0, W0 = w.alloc (.cells #[.string ⟨#[]⟩, .int .i64 0, .int .i64 0, .int .i64 0] 56) := ⟨_, rfl⟩
  have h1 : SrcAt q cv cs a W0 := by rw [hW0]; exact h.alloc _
  have HR0 : Hid (RecOwn W0 w.heap.size ⟨#[]⟩ 0 0 0) := by rw [hW0]; exact ro_of_heap (heap_alloc_new _ _)
  have HG0 : Hid (w.grownBy W0 (some q)) := by rw [hW0]; exact World.grownBy_alloc _ _ _
  have HW0 : Hid (w.alloc (.cells #[.string ⟨#[]⟩, .int .i64 0, .int .i64 0, .int .i64 0] 56) = W0) := hW0.symm
  have hz0 : w.heap.size < W0.heap.size := by rw [hW0]; simp
  clear h hW0
  go_enter Tryz.func150, Tryz.ntmps150
  go_wp2_with fail
  rw [HW0.out]
  refine (l1Draw_any q a cv cs _ h1 (by omega)).mono ?_
  rintro e w1 ⟨t, ht1, ht2, rfl, hg1, a1, -, ha1, hs1⟩
  have hz1 := hg1.size
  clear h1
  go_wp2_with fail
  refine (l1Fold_any t _ ht2).mono ?_
  rintro e w2 ⟨rfl, hb2⟩
  have hs2 := src_below hs1 hb2
  have hg2 : W0.grownBy w2 (some q) := grown_trans hg1 (below_gr hb2)
  have hz2 := hg2.size
  clear hs1 hg1 hb2
  go_wp2_with fail
  refine (l1Next_any q a1 cv cs 3 _ hs2 (by omega) (by omega) (by omega)).mono ?_
  rintro e w3 ⟨r1, hr1, rfl, hg3, hs3⟩
  have hg3 := grown_trans hg2 hg3
  clear hs2 hg2
  go_wp2_with fail
  refine (l1Next_any q (a1 + 1) cv cs 4 _ hs3 (by omega) (by omega) (by omega)).mono ?_
  rintro e w4 ⟨r2, hr2, rfl, hg4, hs4⟩
  have hg4 := grown_trans hg3 hg4
  clear hs3 hg3
  go_wp2_with fail
  refine (l1Next_any q (a1 + 1 + 1) cv cs 65521 _ hs4 (by omega) (by omega) (by omega)).mono ?_
  rintro e w5 ⟨r3, hr3, rfl, hg5, hs5⟩
  have hg5 := grown_trans hg4 hg5
  have hb5 := hg5.block w.heap.size hz0 (fun e => by have := Option.some.inj e; omega)
  clear hs4 hg4
  have hsz := foldS_size t
  have R5 := ro_blk HR0.out hb5
  obtain ⟨⟨k0, k1, k2, k3⟩, z0, z1, z2, z3⟩ := R5
  have HS : Hid (RecSm (foldS t) (1 + (r1 : Int)) (r2 : Int) (r3 : Int)) := ⟨by omega, by omega, by omega, by omega, by omega, by omega, by omega, by omega⟩
  have HG : Hid (w.grownBy w5 (some q)) := grown_trans HG0.out hg5
  generalize foldS t = lb at *
  have hw1 : IntKind.i64.wrap (1 + (r1 : Int)) = 1 + (r1 : Int) := by rw [IntKind.wrap_i64]; omega
  clear hg5 hb5
  go_wp2
  exact bodyPost_ret (v := recV lb (1 + (r1 : Int)) (r2 : Int) (r3 : Int)) (by simp [results, Tryz.results150, go_sem, recV, k0, k1, k2, k3]) rfl ⟨lb, _, _, _, a1 + 1 + 1 + 1, rfl, HS.out, grown_new (grown_new (grown_new (grown_new HG.out (setCell_grown _ _ _ _) (fun g e => by cases e; exact Nat.le_refl _)) (setCell_grown _ _ _ _) (fun g e => by cases e; exact Nat.le_refl _)) (setCell_grown _ _ _ _) (fun g e => by cases e; exact Nat.le_refl _)) (setCell_grown _ _ _ _) (fun g e => by cases e; exact Nat.le_refl _), by omega, (((hs5.grown (setCell_grown _ _ _ _) (fun k e => by cases e; exact hq)).grown (setCell_grown _ _ _ _) (fun k e => by cases e; exact hq)).grown (setCell_grown _ _ _ _) (fun k e => by cases e; exact hq)).grown (setCell_grown _ _ _ _) (fun k e => by cases e; exact hq)⟩
def pickV : List Int := [0, 999, 1000]
def pickP : List Int := [-1, 65521]
theorem ro_set0 {w : World} {g : Nat} {l l' : ByteArray} {v o p : Int} (h : RecOwn w g l v o p) : RecOwn (w.setCell ⟨g, 0, none⟩ (.string l')) g l' v o p :=
  ⟨⟨World.cell?_setCell_same _ _ _ h.c0, (World.cell?_setCell_other _ _ _ _ (by simp)).trans h.c1, (World.cell?_setCell_other _ _ _ _ (by simp)).trans h.c2, (World.cell?_setCell_other _ _ _ _ (by simp)).trans h.c3⟩, (World.frozen?_setCell _ _ _ _).trans h.f0, (World.frozen?_setCell _ _ _ _).trans h.f1, (World.frozen?_setCell _ _ _ _).trans h.f2, (World.frozen?_setCell _ _ _ _).trans h.f3⟩
theorem ro_set1 {w : World} {g : Nat} {l : ByteArray} {v v' o p : Int} (h : RecOwn w g l v o p) : RecOwn (w.setCell ⟨g, 1, none⟩ (.int .i64 v')) g l v' o p :=
  ⟨⟨(World.cell?_setCell_other _ _ _ _ (by simp)).trans h.c0, World.cell?_setCell_same _ _ _ h.c1, (World.cell?_setCell_other _ _ _ _ (by simp)).trans h.c2, (World.cell?_setCell_other _ _ _ _ (by simp)).trans h.c3⟩, (World.frozen?_setCell _ _ _ _).trans h.f0, (World.frozen?_setCell _ _ _ _).trans h.f1, (World.frozen?_setCell _ _ _ _).trans h.f2, (World.frozen?_setCell _ _ _ _).trans h.f3⟩
theorem ro_set3 {w : World} {g : Nat} {l : ByteArray} {v o p p' : Int} (h : RecOwn w g l v o p) : RecOwn (w.setCell ⟨g, 3, none⟩ (.int .i64 p')) g l v o p' :=
  ⟨⟨(World.cell?_setCell_other _ _ _ _ (by simp)).trans h.c0, (World.cell?_setCell_other _ _ _ _ (by simp)).trans h.c1, (World.cell?_setCell_other _ _ _ _ (by simp)).trans h.c2, World.cell?_setCell_same _ _ _ h.c3⟩, (World.frozen?_setCell _ _ _ _).trans h.f0, (World.frozen?_setCell _ _ _ _).trans h.f1, (World.frozen?_setCell _ _ _ _).trans h.f2, (World.frozen?_setCell _ _ _ _).trans h.f3⟩
theorem ro_other {w : World} {g g' i : Nat} {l : ByteArray} {v o p : Int} {x : Value} (h : RecOwn w g l v o p) (hne : g' ≠ g) : RecOwn (w.setCell ⟨g', i, none⟩ x) g l v o p :=
  ro_blk h (heap_setCell_other w ⟨g', i, none⟩ g x (by simpa using hne.symm))
end U
end Go.Proofs.YtbjdplipgghndaaGreat
