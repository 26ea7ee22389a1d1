/- Climbing, by the program. -/
import Derived.Test.YtgflamlfplpfdaaOp2
import Derived.Test.YtgflamlfplpfdaaOp3
import Derived.ScopeJumps
import Derived.WalkMore
namespace Go.Proofs.Ytgflamlfplpfdaa
open Go.RowKit
namespace U
/-- Eight values in a block. -/
structure ArrV (w : World) (g : Nat) (f : Nat → Value) : Prop where
  c : ∀ j, j < 8 → w.cell? ⟨g, j, none⟩ = some (f j)
  z : ∀ j, j < 8 → w.frozen? ⟨g, j, none⟩ = false
def arrV (f : Nat → Value) : Array Value := #[f 0, f 1, f 2, f 3, f 4, f 5, f 6, f 7]
theorem lt8 {j : Nat} (h : j < 8) : j = 0 ∨ j = 1 ∨ j = 2 ∨ j = 3 ∨ j = 4 ∨ j = 5 ∨ j = 6 ∨ j = 7 := by omega
theorem ArrV.of {w : World} {g : Nat} {f : Nat → Value} {t : TypeId} (h : w.heap[g]? = some (.cells (arrV f) t)) : ArrV w g f := by
  constructor
  · intro j hj
    rcases lt8 hj with rfl | rfl | rfl | rfl | rfl | rfl | rfl | rfl <;> (unfold World.cell?; rw [h]; rfl)
  · intro j hj
    rcases lt8 hj with rfl | rfl | rfl | rfl | rfl | rfl | rfl | rfl <;> (unfold World.frozen?; rw [h]; rfl)
theorem ArrV.below {w w' : World} {g B : Nat} {f : Nat → Value} (h : ArrV w g f) (hb : Below B w w') (hg : g < B) : ArrV w' g f :=
  ⟨fun j hj => (hb.cell (p := ⟨g, j, none⟩) hg).trans (h.c j hj), fun j hj => (hb.frozen (p := ⟨g, j, none⟩) hg).trans (h.z j hj)⟩
theorem ArrV.set {w : World} {g k : Nat} {f : Nat → Value} (h : ArrV w g f) (hk : k < 8) (x : Value) : ArrV (w.setCell ⟨g, k, none⟩ x) g (fun j => if j = k then x else f j) := by
  refine ⟨fun j hj => ?_, fun j hj => (World.frozen?_setCell _ _ _ _).trans (h.z j hj)⟩
  by_cases e : j = k
  · subst e
    rw [if_pos rfl]
    exact World.cell?_setCell_same _ _ _ (h.c j hj)
  · rw [if_neg e]
    exact (World.cell?_setCell_other _ _ _ _ (by simp)).trans (h.c j hj)
theorem ArrV.other {w : World} {g k b : Nat} {f : Nat → Value} (h : ArrV w g f) (hb : b ≠ g) (x : Value) : ArrV (w.setCell ⟨b, k, none⟩ x) g f :=
  ⟨fun j hj => (World.cell?_setCell_other _ _ _ _ (by simp)).trans (h.c j hj), fun j hj => (World.frozen?_setCell _ _ _ _).trans (h.z j hj)⟩
theorem ArrV.cells {w : World} {g : Nat} {f : Nat → Value} (h : ArrV w g f) : w.cell? ⟨g, 0, none⟩ = some (f 0) ∧ w.cell? ⟨g, 1, none⟩ = some (f 1) ∧ w.cell? ⟨g, 2, none⟩ = some (f 2) ∧ w.cell? ⟨g, 3, none⟩ = some (f 3) ∧ w.cell? ⟨g, 4, none⟩ = some (f 4) ∧ w.cell? ⟨g, 5, none⟩ = some (f 5) ∧ w.cell? ⟨g, 6, none⟩ = some (f 6) ∧ w.cell? ⟨g, 7, none⟩ = some (f 7) :=
  ⟨h.c 0 (by omega), h.c 1 (by omega), h.c 2 (by omega), h.c 3 (by omega), h.c 4 (by omega), h.c 5 (by omega), h.c 6 (by omega), h.c 7 (by omega)⟩
theorem ArrV.froz {w : World} {g : Nat} {f : Nat → Value} (h : ArrV w g f) : w.frozen? ⟨g, 0, none⟩ = false ∧ w.frozen? ⟨g, 1, none⟩ = false ∧ w.frozen? ⟨g, 2, none⟩ = false ∧ w.frozen? ⟨g, 3, none⟩ = false ∧ w.frozen? ⟨g, 4, none⟩ = false ∧ w.frozen? ⟨g, 5, none⟩ = false ∧ w.frozen? ⟨g, 6, none⟩ = false ∧ w.frozen? ⟨g, 7, none⟩ = false :=
  ⟨h.z 0 (by omega), h.z 1 (by omega), h.z 2 (by omega), h.z 3 (by omega), h.z 4 (by omega), h.z 5 (by omega), h.z 6 (by omega), h.z 7 (by omega)⟩
theorem ArrV.congr {w : World} {g : Nat} {f f' : Nat → Value} (h : ArrV w g f) (e : ∀ j, j < 8 → f j = f' j) : ArrV w g f' := ⟨fun j hj => by rw [← e j hj]; exact h.c j hj, h.z⟩
/-- A scope with one label to which the run jumps back: a pass is walked once. -/
theorem wp_scope_once {P : Program} {a : Act} {w : World} {Q : Exit → Act → World → Prop} {c R : Code} (l : Nat) (J : Act → World → Prop) (μ : Act → World → Nat) (hf : findLabel c l = some (Code.skip.seq R))
    (pass : ∀ a w, J a w → R.wp P (Exit.jump l (fun a' w' => J a' w' ∧ μ a' w' < μ a w) Q) a w)
    (first : (∀ a w, J a w → R.wp P (Exit.jump l J Q) a w) → c.wp P (Exit.jump l J Q) a w) : (Code.scope c).wp P Q a w := by
  refine wp_scope_jumps l J μ hf (first fun a w h => Code.wp_mono ?_ (pass a w h)) (fun a w h => wp_seq (wp_skip (pass a w h)))
  intro e a' w' h'
  cases e <;> first | exact h' | exact ⟨h'.1, h'.2.1⟩
theorem two_lie (w : World) (o o' : Obj) : ((w.alloc o).alloc o').heap[w.heap.size]? = some o ∧ ((w.alloc o).alloc o').heap[w.heap.size + 1]? = some o' := by
  have h1 := heap_alloc_new (w.alloc o) o'
  simp only [World.size_alloc] at h1
  exact ⟨(Below.heap_alloc _ _ _ (by simp)).trans (heap_alloc_new w o), h1⟩
/-- The nodes up to a level, as numbers; nothing behind it. -/
def nds (x s : Int) (p : List Int) (k j : Nat) : Value := if j < k then cx (sdL x s p j) (sdR x s p j) else .complex .f64 0 0
theorem nds_set (x s : Int) (p : List Int) (k : Nat) : ∀ j, j < 8 → (fun j => if j = k then cx (sdL x s p k) (sdR x s p k) else nds x s p k j) j = nds x s p (k + 1) j := by
  intro j _
  show (if j = k then cx (sdL x s p k) (sdR x s p k) else nds x s p k j) = nds x s p (k + 1) j
  unfold nds
  by_cases e : j = k
  · subst e
    rw [if_pos rfl, if_pos (by omega)]
  · rw [if_neg e]
    by_cases e2 : j < k
    · rw [if_pos e2, if_pos (by omega)]
    · rw [if_neg e2, if_neg (by omega)]
def zro : Nat → Value := fun _ => .complex .f64 0 0
theorem ArrV.zcells {w : World} {g : Nat} (h : ArrV w g zro) : w.cell? ⟨g, 0, none⟩ = some (.complex .f64 0 0) ∧ w.cell? ⟨g, 1, none⟩ = some (.complex .f64 0 0) ∧ w.cell? ⟨g, 2, none⟩ = some (.complex .f64 0 0) ∧ w.cell? ⟨g, 3, none⟩ = some (.complex .f64 0 0) ∧ w.cell? ⟨g, 4, none⟩ = some (.complex .f64 0 0) ∧ w.cell? ⟨g, 5, none⟩ = some (.complex .f64 0 0) ∧ w.cell? ⟨g, 6, none⟩ = some (.complex .f64 0 0) ∧ w.cell? ⟨g, 7, none⟩ = some (.complex .f64 0 0) := h.cells
theorem nds_zero (x s : Int) (p : List Int) : nds x s p 0 = zro := by
  funext j
  unfold nds zro
  rw [if_neg (by omega)]
set_option maxRecDepth 100000 in
set_option maxHeartbeats 4000000 in
theorem climb_any (x : Int) (v u : Value) (ls p : List Int) (w : World) (hx : 0 ≤ x ∧ x ≤ 255) (hv : Ints .u8 w v ls) (hB : Bts ls) (hl : ls.length ≤ 200) (hu : Ints .i64 w u p) (hp : p.length = 8) (hs : p.all sumB = true) :
    Calls Try.prog 76 #[.int .i64 x, v, u] w fun e w' => e = .returned (.tuple #[.agg (arrV (nds x (sumL ls) p 8)), .int .i64 (clm x (sumL ls) p 8)]) ∧ Below w.heap.size w w' := by
  have hS := fun w' h => implSumOf_any v ls w' (hv.below h) hB (by omega)
  rw [(sm_ok (bs := ls) (by omega)).1, (sm_ok (bs := ls) (by omega)).2] at hS
  have hsb := sumL_bd ls
  have hR := fun n => clm_bd (x := x) (p := p) hsb n
  have hD := fun n => sd_bd (x := x) hsb hs n
  obtain ⟨va, vc, rfl⟩ := hv.shape
  generalize ls.length = vn at *
  generalize sumL ls = s0 at *
  obtain ⟨ua, uc, rfl⟩ := hu.shape
  obtain ⟨-, b, off, rfl, hb, hc⟩ := hu.at (by omega : 0 < p.length)
  rw [hp] at hu hc ⊢
  have kf := fun w => field_IR1 0 s0 w
  have HC : Hid (∀ w', Below w.heap.size w w' → ∀ j, j < 8 → w'.cell? ⟨b, off + j, none⟩ = some (.int .i64 (p.getD j 0))) := fun w' h j hj => (h.cell (p := ⟨b, off + j, none⟩) hb).trans (hc j hj)
  clear hu hv hc hB hl
  have HZ0 : Hid (nds x s0 p 0 = zro) := nds_zero x s0 p
  go_enter Try.func76, Try.ntmps76
  go_wp2
  rename_i Q0
  have HQ : Hid (∀ a' w', bodyPost Try.prog Try.f76 (fun e w' => e = .returned (.tuple #[.agg (arrV (nds x s0 p 8)), .int .i64 (clm x s0 p 8)]) ∧ Below w.heap.size w w') .ret a' w' → Q0 .ret a' w') := fun _ _ h => h
  clear_value Q0
  refine wp_scope_once 0 (fun a' w' => ∃ (k : Nat) (u14 u15 u16 u17 u18 u19 u20 u21 u22 u23 u24 u25 u26 u27 u28 u29 u30 u31 u32 u33 u34 : Value), k < 8 ∧ a' = { tmps := #[.int .i64 x, .slice va vn vc, .slice (some ⟨b, off, none⟩) 8 uc, undef, undef, undef, .pointer (some ⟨w.heap.size, 0, none⟩), .int .i64 0, .pointer (some ⟨w.heap.size + 1, 0, none⟩), .int .i64 (clm x s0 p k), .int .i64 k, .slice va vn vc, .agg #[.int .i64 0, .int .i64 s0], .int .i64 s0, u14, u15, u16, u17, u18, u19, u20, u21, u22, u23, u24, u25, u26, u27, u28, u29, u30, u31, u32, u33, u34], defers := [] } ∧ w.heap.size + 1 < w'.heap.size ∧ Hid (Below w.heap.size w w') ∧ Hid (ArrV w' (w.heap.size + 1) (nds x s0 p k)) ∧ Hid (ArrV w' w.heap.size zro)) (fun a' _ => 8 - (intOf (a'.tmps.getD 10 undef)).toNat) rfl ?_ ?_
  · rintro a' wr ⟨k, u14, u15, u16, u17, u18, u19, u20, u21, u22, u23, u24, u25, u26, u27, u28, u29, u30, u31, u32, u33, u34, hk, rfl, hsz, HB, HA, HZ⟩
    have ck := HC.out _ HB.out k hk
    have hck := HA.out.c k hk
    have hcz := HA.out.z k hk
    have hk0 : (0 : Int) ≤ (k : Int) := by omega
    have hk8 : (k : Int) < 8 := by omega
    have hkw : IntKind.i64.wrap ((k : Int) + 1) = (k : Int) + 1 := by rw [IntKind.wrap_i64]; omega
    have hAB := hD k
    have hnx : Hid (clm x s0 p (k + 1) = t2 (sdL x s0 p k) (sdR x s0 p k)) := clm_succ x s0 p k
    have hset : Hid (ArrV (wr.setCell ⟨w.heap.size + 1, k, none⟩ (cx (sdL x s0 p k) (sdR x s0 p k))) (w.heap.size + 1) (nds x s0 p (k + 1))) := (HA.out.set hk _).congr (nds_set x s0 p k)
    have hz2 : Hid (ArrV (wr.setCell ⟨w.heap.size + 1, k, none⟩ (cx (sdL x s0 p k) (sdR x s0 p k))) w.heap.size zro) := HZ.out.other (k := k) (b := w.heap.size + 1) (by omega) _
    have hB2 : Hid (Below w.heap.size w (wr.setCell ⟨w.heap.size + 1, k, none⟩ (cx (sdL x s0 p k) (sdR x s0 p k)))) := HB.out.setCell (Nat.le_succ _) _
    have hS0 : ∀ w', Calls Try.prog 107 #[.int .i64 (x / 2 ^ k), .int .i64 (clm x s0 p k), .int .i64 (p.getD k 0)] w' fun e w'' => e = .returned (cx (sdL x s0 p k) (sdR x s0 p k)) ∧ w'' = w' := by
      intro w'
      have e : x / 2 ^ k = x / (2 ^ k : Nat) := by simp
      rw [e]
      have hq : 0 ≤ x / (2 ^ k : Nat) := Int.ediv_nonneg hx.1 (Int.natCast_nonneg _)
      unfold sdL sdR
      split
      · exact bothSides_even _ _ _ w' hq (by assumption)
      · exact bothSides_odd _ _ _ w' hq (by assumption)
    have hN0 := fun w' => nodeSum_any _ _ w' hAB.1 hAB.2
    rw [← hnx.out] at hN0
    have hck2 : (wr.setCell ⟨w.heap.size + 1, k, none⟩ (cx (sdL x s0 p k) (sdR x s0 p k))).cell? ⟨w.heap.size + 1, k, none⟩ = some (cx (sdL x s0 p k) (sdR x s0 p k)) := World.cell?_setCell_same _ _ _ hck
    clear hAB hnx hD hR HA HZ HB
    generalize hcv : cx (sdL x s0 p k) (sdR x s0 p k) = cv at *
    obtain ⟨fa, fb, rfl⟩ : ∃ fa fb, cv = .complex .f64 fa fb := ⟨_, _, hcv.symm⟩
    clear hcv
    generalize p.getD k 0 = o at *
    generalize hcc : clm x s0 p k = cc at *
    generalize hcd : clm x s0 p (k + 1) = cd at *
    have HCC : Hid (clm x s0 p k = cc) := hcc
    have HCD : Hid (clm x s0 p (k + 1) = cd) := hcd
    clear hcc hcd
    have kst := fun (w : World) (a : Addr) (m : Mode) => run_store Try.prog w a (.complex .f64 fa fb) m rfl
    have hd1 : wr.drew.cell? ⟨w.heap.size + 1, k, none⟩ = some (nds x s0 p k k) := hck
    have hd2 : wr.drew.frozen? ⟨w.heap.size + 1, k, none⟩ = false := hcz
    go_wp2
    go_region_held3 (fun w' => w'.cell? ⟨b, off + k, none⟩ = some (.int .i64 o))
      (first | exact ck | exact (World.cell?_setCell_other _ _ _ _ (by simp)).trans ck)
      (first | (go_at_call 107; refine (hS0 _).mono ?_; rintro e wq ⟨rfl, rfl⟩))
    obtain ⟨W2, hW2⟩ : ∃ W2, W2 = (wr.setCell ⟨w.heap.size + 1, k, none⟩ (.complex .f64 fa fb)).drew := ⟨_, rfl⟩
    have hck3 : W2.cell? ⟨w.heap.size + 1, k, none⟩ = some (.complex .f64 fa fb) := by rw [hW2]; exact hck2
    have hset : Hid (ArrV W2 (w.heap.size + 1) (nds x s0 p (k + 1))) := by rw [hW2]; exact ⟨hset.out.c, hset.out.z⟩
    have hz2 : Hid (ArrV W2 w.heap.size zro) := by rw [hW2]; exact ⟨hz2.out.c, hz2.out.z⟩
    have hB2 : Hid (Below w.heap.size w W2) := by rw [hW2]; exact hB2.out.drew
    have hsz2 : w.heap.size + 1 < W2.heap.size := by rw [hW2]; simpa using hsz
    rw [← hW2]
    clear hW2 hck hcz hck2 hd1 hd2 ck kst hS0 hsz
    go_wp2_with fail
    refine (hN0 _).mono ?_
    rintro e w3 ⟨rfl, hb3⟩
    have hset3 : Hid (ArrV w3 (w.heap.size + 1) (nds x s0 p (k + 1))) := hset.out.below hb3 hsz2
    have hz3 : Hid (ArrV w3 w.heap.size zro) := hz2.out.below hb3 (by omega)
    have hB3 : Hid (Below w.heap.size w w3) := below_after_of hB2.out hb3
    clear hset hz2 hB2
    have hsz3 : w.heap.size + 1 < w3.heap.size := Nat.lt_of_lt_of_le hsz2 hb3.size
    clear hN0 hb3 hck3 hsz2
    by_cases h7 : k = 7
    · subst h7
      obtain ⟨c0, c1, c2, c3, c4, c5, c6, c7⟩ := hset3.out.cells
      obtain ⟨d0, d1, d2, d3, d4, d5, d6, d7⟩ := hz3.out.zcells
      obtain ⟨z0, z1, z2, z3, z4, z5, z6, z7⟩ := hz3.out.froz
      have HF : Hid (∀ j, j < 8 → ∃ r i, nds x s0 p 8 j = .complex .f64 r i) := fun j hj => by
        unfold nds
        rw [if_pos hj]
        exact ⟨_, _, rfl⟩
      obtain ⟨r0, i0, e0⟩ := HF.out 0 (by omega)
      obtain ⟨r1, i1, e1⟩ := HF.out 1 (by omega)
      obtain ⟨r2, i2, e2⟩ := HF.out 2 (by omega)
      obtain ⟨r3, i3, e3⟩ := HF.out 3 (by omega)
      obtain ⟨r4, i4, e4⟩ := HF.out 4 (by omega)
      obtain ⟨r5, i5, e5⟩ := HF.out 5 (by omega)
      obtain ⟨r6, i6, e6⟩ := HF.out 6 (by omega)
      obtain ⟨r7, i7, e7⟩ := HF.out 7 (by omega)
      have HR : Hid (arrV (nds x s0 p 8) = #[.complex .f64 r0 i0, .complex .f64 r1 i1, .complex .f64 r2 i2, .complex .f64 r3 i3, .complex .f64 r4 i4, .complex .f64 r5 i5, .complex .f64 r6 i6, .complex .f64 r7 i7]) := by
        show arrV _ = _
        unfold arrV
        rw [e0, e1, e2, e3, e4, e5, e6, e7]
      rw [e0] at c0
      rw [e1] at c1
      rw [e2] at c2
      rw [e3] at c3
      rw [e4] at c4
      rw [e5] at c5
      rw [e6] at c6
      rw [e7] at c7
      have kst := fun (w : World) (a : Addr) (m : Mode) (r i : Nat) => run_store Try.prog w a (.complex .f64 r i) m rfl
      have HCD : Hid (clm x s0 p 8 = cd) := HCD.out
      clear HF e0 e1 e2 e3 e4 e5 e6 e7 HCC hset3 hz3
      go_wp2
      have hB := hB3.out
      show Q0 .ret _ _
      refine HQ.out _ _ ?_
      exact bodyPost_ret (v := .tuple #[.agg #[.complex .f64 r0 i0, .complex .f64 r1 i1, .complex .f64 r2 i2, .complex .f64 r3 i3, .complex .f64 r4 i4, .complex .f64 r5 i5, .complex .f64 r6 i6, .complex .f64 r7 i7], .int .i64 cd]) (by simp [results, Try.results76, go_sem, d0, d1, d2, d3, d4, d5, d6, d7]) rfl ⟨by rw [HR.out, HCD.out], ((((((((hB.setCell (Nat.le_refl _) _).setCell (Nat.le_refl _) _).setCell (Nat.le_refl _) _).setCell (Nat.le_refl _) _).setCell (Nat.le_refl _) _).setCell (Nat.le_refl _) _).setCell (Nat.le_refl _) _).setCell (Nat.le_refl _) _)⟩
    · have hk7 : (k : Int) + 1 < 8 := by omega
      go_wp2
      go_step3
      have hcd := HCD.out
      subst hcd
      refine ⟨rfl, ⟨k + 1, _, _, _, _, _, _, _, _, _, _, _, _, _, _, _, _, _, _, _, _, _, by omega, rfl, hsz3, hB3, hset3, hz3⟩, ?_⟩
      simp [intOf]
      omega
  · intro hpass
    go_wp2_with fail
    refine (hS _ ?_).mono ?_
    · exact two_new _ _
    rintro e w1 ⟨rfl, hb1⟩
    have A1 : ArrV w1 (w.heap.size + 1) (nds x s0 p 0) := by
      rw [HZ0.out]
      exact ArrV.of (f := zro) ((hb1.block (w.heap.size + 1) (by simp)).trans (two_lie w _ _).2)
    have A0 : ArrV w1 w.heap.size zro := ArrV.of (f := zro) ((hb1.block w.heap.size (by simp; omega)).trans (two_lie w _ _).1)
    have hB1 : Below w.heap.size w w1 := below_after (below_after hb1)
    have hsz1 : w.heap.size + 1 < w1.heap.size := by have := hb1.size; simp at this; omega
    clear hS hb1
    go_wp2
    go_step3
    rename_i hK
    exact hK _ _ (hpass _ _ ⟨0, _, _, _, _, _, _, _, _, _, _, _, _, _, _, _, _, _, _, _, _, _, by omega, rfl, hsz1, hB1, A1, A0⟩)
end U
end Go.Proofs.Ytgflamlfplpfdaa
