/- A directory of one's own, by the program. -/
import Derived.Test.YtjhmfaibpnagcaaGreatGCp1
import Derived.Test.YtjhmfaibpnagcaaGreatGBC
import Derived.Test.YtjhmfaibpnagcaaGreatGBA
namespace Go.Proofs.YtjhmfaibpnagcaaGreat
open Go.RowKit
namespace U
theorem flR_same {l : Rcl} {k : Nat} (h : k < l.length) : ((((flR l).set (k * 4) (.string (rAt l k).l)).set (k * 4 + 1) (.int .i64 (rAt l k).v)).set (k * 4 + 2) (.int .i64 (rAt l k).o)).set (k * 4 + 3) (.int .i64 (rAt l k).p) = flR l := by
  rw [← flR_set l (rAt l k) k h]
  congr 1
  rw [rAt_eq h]
  exact List.set_getElem_self h
theorem box_set {w : World} {b : Nat} {x y : Value} {t : TypeId} (h : w.heap[b]? = some (.cells #[x] t)) : (w.setCell ⟨b, 0, none⟩ y).heap[b]? = some (.cells #[y] t) := by
  have := heap_setCell_same w b 0 _ _ y h
  simpa using this
theorem one_cellF {w : World} {g : Nat} {x : Value} {t : TypeId} (h : w.heap[g]? = some (.cells #[x] t)) : w.cell? ⟨g, 0, none⟩ = some x ∧ w.frozen? ⟨g, 0, none⟩ = false := by
  simp [World.cell?, World.frozen?, h]
theorem cell_set_other (w : World) (a p : Addr) (x : Value) (h : p.block ≠ a.block) : (w.setCell a x).cell? p = w.cell? p := World.cell?_of_block (heap_setCell_other w a p.block x h)
/-- A directory that is being copied: its box, the box of the answer, the row. -/
structure OdI (N lo : Nat) (w : World) (a : Option Addr) (n c : Nat) (l : Rcl) (wr : World) : Prop where
  below : Below w.heap.size w wr
  box : wr.heap[N]? = some (.cells #[.slice a n c] 33)
  res : wr.heap[N + 1]? = some (.cells #[.slice none 0 0] 33)
  own : wr.ownsRow lo 52 4 (.slice a n c) n (flR l)
theorem OdI.next {N lo : Nat} {w : World} {a : Option Addr} {n c : Nat} {l : Rcl} {wr w' : World} (h : OdI N lo w a n c l wr) (hb : Below wr.heap.size wr w') : OdI N lo w a n c l w' :=
  ⟨below_after_of h.below hb, (hb.block N (Array.getElem?_eq_some_iff.1 h.box).1).trans h.box, (hb.block (N + 1) (Array.getElem?_eq_some_iff.1 h.res).1).trans h.res, own_below h.own hb⟩
set_option maxRecDepth 100000 in
set_option maxHeartbeats 4000000 in
theorem ownDirectory_any (u : Value) (l : Rcl) (w : World) (hv : Rcs w u l) (hl : Lbs l) (hx : l.length ≤ 1048576) :
    Calls Tryz.prog 39 #[.agg #[u]] w fun e w' => ∃ a c, e = .returned (.agg #[.slice a l.length c]) ∧ Below w.heap.size w w' ∧ w'.ownsRow w.heap.size 52 4 (.slice a l.length c) l.length (flR l) := by
  obtain ⟨W, hW⟩ : ∃ W, W = (w.alloc (.cells #[u] 33)).alloc (.cells #[.slice none 0 0] 33) := ⟨_, rfl⟩
  have hBW : Below w.heap.size w W := by rw [hW]; exact two_new _ _
  have h2 := heap_alloc_new (w.alloc (.cells #[u] 33)) (.cells #[.slice none 0 0] 33)
  rw [World.size_alloc, ← hW] at h2
  have h1 : W.heap[w.heap.size]? = some (.cells #[u] 33) := by
    rw [hW]; exact ((one_new _).block w.heap.size (by simp)).trans (heap_alloc_new w _)
  have hC := cpRc_any u l W (hv.below hBW) hx
  obtain ⟨ua, uc, rfl⟩ := hv.shape
  have HH1 : Hid (W.heap[w.heap.size]? = some (.cells #[.slice ua l.length uc] 33) ∧ W.heap[w.heap.size + 1]? = some (.cells #[.slice none 0 0] 33)) := ⟨h1, h2⟩
  have HLW : Hid (w.heap.size + 1 < W.heap.size) := (Array.getElem?_eq_some_iff.1 h2).1
  have HW : Hid ((w.alloc (.cells #[.slice ua l.length uc] 33)).alloc (.cells #[.slice none 0 0] 33) = W) := hW.symm
  have HBW : Hid (Below w.heap.size w W) := hBW
  have HL : Hid (Lbs l) := hl
  obtain ⟨n, hn⟩ : ∃ n, n = l.length := ⟨_, rfl⟩
  have HN : Hid (n = l.length) := hn
  rw [← hn] at hC HH1 HW hx ⊢
  clear hv hl hW hBW h1 h2 hn
  go_enter Tryz.func39, Tryz.ntmps39
  go_wp2_with fail
  rw [HW.out]
  refine hC.mono ?_
  rintro e w1 ⟨a, c, rfl, hb1, o1⟩
  have q1 := (hb1.block w.heap.size (by have := HLW.out; omega)).trans HH1.out.1
  have q2 := (hb1.block (w.heap.size + 1) HLW.out).trans HH1.out.2
  obtain ⟨k1, f1⟩ := one_cellF q1
  obtain ⟨W1, hW1⟩ : ∃ W1, W1 = w1.setCell ⟨w.heap.size, 0, none⟩ (.slice a n c) := ⟨_, rfl⟩
  have I1 : OdI w.heap.size W.heap.size w a n c l W1 := by
    rw [hW1]
    exact ⟨(below_after_of HBW.out hb1).setCell (Nat.le_refl _) _, box_set q1, (heap_setCell_other w1 ⟨w.heap.size, 0, none⟩ (w.heap.size + 1) _ (by simp)).trans q2, ownsRow_setCell_below o1 (by show w.heap.size < W.heap.size; have := HLW.out; omega) _⟩
  have HI1 : Hid (OdI w.heap.size W.heap.size w a n c l (w1.setCell ⟨w.heap.size, 0, none⟩ (.slice a n c))) := (by rw [← hW1]; exact I1 : OdI w.heap.size W.heap.size w a n c l (w1.setCell ⟨w.heap.size, 0, none⟩ (.slice a n c)))
  obtain ⟨k2, -⟩ := one_cellF HI1.out.box
  have HWL : Hid (W.heap.size ≤ w1.heap.size) := hb1.size
  clear hC hb1 o1 q1 q2 hW1 I1 HW
  go_wp2
  go_loopw [12] (fun i wr => ∃ k : Nat, k ≤ n ∧ i = .int .i64 k ∧ Hid (OdI w.heap.size W.heap.size w a n c l wr) ∧ Hid (W.heap.size ≤ wr.heap.size)) (fun i _ => n - (intOf i).toNat)
  case atStart => exact ⟨0, Nat.zero_le _, rfl, HI1, (by simpa using HWL.out : W.heap.size ≤ (w1.setCell ⟨w.heap.size, 0, none⟩ (.slice a n c)).heap.size)⟩
  case round =>
    obtain ⟨k, hk, rfl, HI, HWr⟩ := hrel
    clear k1 f1 k2 HI1 HWL
    by_cases hkn : k < n
    · have hki : (k : Int) < (n : Int) := by omega
      have hlk : k < l.length := by have := HN.out; omega
      obtain ⟨g, rfl, hgW⟩ : ∃ g, a = some ⟨g, 0, none⟩ ∧ W.heap.size ≤ g := by
        rcases HI.out.own.2 with ⟨_, h⟩ | ⟨g, cap, cur, e, h, _⟩
        · omega
        · cases e; exact ⟨g, rfl, h⟩
      have hrd := (own_rcs' HI.out.own).at (by omega)
      obtain ⟨-, b', off', e', -, hcc⟩ := hrd
      cases e'
      obtain ⟨d0, d1, d2, d3⟩ := hcc k hlk
      simp only [Nat.zero_add] at d0 d1 d2 d3
      have hR := fun w => ownRecord_any (rAt l k).l (rAt l k).v (rAt l k).o (rAt l k).p w (HL.out.at hlk)
      have HFS : Hid (((((flR l).set (k * 4) (.string (rAt l k).l)).set (k * 4 + 1) (.int .i64 (rAt l k).v)).set (k * 4 + 2) (.int .i64 (rAt l k).o)).set (k * 4 + 3) (.int .i64 (rAt l k).p) = flR l) := flR_same hlk
      generalize (rAt l k).l = x0 at *
      generalize (rAt l k).v = x1 at *
      generalize (rAt l k).o = x2 at *
      generalize (rAt l k).p = x3 at *
      have hgs : g < wr.heap.size := (HI.out.own.lt _ rfl).2
      obtain ⟨V, hV⟩ : ∃ V, V = wr.alloc (.cells #[.string x0, .int .i64 x1, .int .i64 x2, .int .i64 x3] 52) := ⟨_, rfl⟩
      have HV : Hid (wr.alloc (.cells #[.string x0, .int .i64 x1, .int .i64 x2, .int .i64 x3] 52) = V) := hV.symm
      have hbV : Below wr.heap.size wr V := by rw [hV]; exact one_new _
      have hVH : V.heap[wr.heap.size]? = some (.cells #[.string x0, .int .i64 x1, .int .i64 x2, .int .i64 x3] 52) := by rw [hV]; exact heap_alloc_new wr _
      have HIV : Hid (∀ w', Below V.heap.size V w' → OdI w.heap.size W.heap.size w (some ⟨g, 0, none⟩) n c l w') := fun w' hb => (HI.out.next hbV).next hb
      have HCC : Hid (∀ w', Below V.heap.size V w' → w'.cell? ⟨w.heap.size, 0, none⟩ = some (.slice (some ⟨g, 0, none⟩) n c) ∧ w'.cell? ⟨wr.heap.size, 0, none⟩ = some (.string x0) ∧ w'.cell? ⟨wr.heap.size, 1, none⟩ = some (.int .i64 x1) ∧ w'.cell? ⟨wr.heap.size, 2, none⟩ = some (.int .i64 x2) ∧ w'.cell? ⟨wr.heap.size, 3, none⟩ = some (.int .i64 x3)) := fun w' hb => by
        obtain ⟨y0, y1, y2, y3⟩ := four_cellsV ((hb.block _ (Array.getElem?_eq_some_iff.1 hVH).1).trans hVH)
        exact ⟨one_cellV (HIV.out w' hb).box, y0, y1, y2, y3⟩
      have hbx : Below V.heap.size V V := Below.refl _ _
      obtain ⟨y0, y1, y2, y3, y4⟩ := HCC.out _ hbx
      have HVr : Hid (wr.heap.size ≤ V.heap.size) := hbV.size
      clear hV hbV hVH hcc HI
      go_wp2_with fail
      rw [HV.out]
      clear d0 d1 d2 d3 HV
      have hltg : k * 4 + 3 < n * 4 := by omega
      have HCS : Hid (∀ w' : World, (w'.cell? ⟨w.heap.size, 0, none⟩ = some (.slice (some ⟨g, 0, none⟩) n c) ∧ w'.cell? ⟨wr.heap.size, 0, none⟩ = some (.string x0) ∧ w'.cell? ⟨wr.heap.size, 1, none⟩ = some (.int .i64 x1) ∧ w'.cell? ⟨wr.heap.size, 2, none⟩ = some (.int .i64 x2) ∧ w'.cell? ⟨wr.heap.size, 3, none⟩ = some (.int .i64 x3)) → ((((w'.setCell ⟨g, k * 4, none⟩ (.string x0)).setCell ⟨g, k * 4 + 1, none⟩ (.int .i64 x1)).setCell ⟨g, k * 4 + 2, none⟩ (.int .i64 x2)).setCell ⟨g, k * 4 + 3, none⟩ (.int .i64 x3)).cell? ⟨w.heap.size, 0, none⟩ = some (.slice (some ⟨g, 0, none⟩) n c) ∧ ((((w'.setCell ⟨g, k * 4, none⟩ (.string x0)).setCell ⟨g, k * 4 + 1, none⟩ (.int .i64 x1)).setCell ⟨g, k * 4 + 2, none⟩ (.int .i64 x2)).setCell ⟨g, k * 4 + 3, none⟩ (.int .i64 x3)).cell? ⟨wr.heap.size, 0, none⟩ = some (.string x0) ∧ ((((w'.setCell ⟨g, k * 4, none⟩ (.string x0)).setCell ⟨g, k * 4 + 1, none⟩ (.int .i64 x1)).setCell ⟨g, k * 4 + 2, none⟩ (.int .i64 x2)).setCell ⟨g, k * 4 + 3, none⟩ (.int .i64 x3)).cell? ⟨wr.heap.size, 1, none⟩ = some (.int .i64 x1) ∧ ((((w'.setCell ⟨g, k * 4, none⟩ (.string x0)).setCell ⟨g, k * 4 + 1, none⟩ (.int .i64 x1)).setCell ⟨g, k * 4 + 2, none⟩ (.int .i64 x2)).setCell ⟨g, k * 4 + 3, none⟩ (.int .i64 x3)).cell? ⟨wr.heap.size, 2, none⟩ = some (.int .i64 x2) ∧ ((((w'.setCell ⟨g, k * 4, none⟩ (.string x0)).setCell ⟨g, k * 4 + 1, none⟩ (.int .i64 x1)).setCell ⟨g, k * 4 + 2, none⟩ (.int .i64 x2)).setCell ⟨g, k * 4 + 3, none⟩ (.int .i64 x3)).cell? ⟨wr.heap.size, 3, none⟩ = some (.int .i64 x3)) := fun w' h => by
        have q : ∀ p : Addr, p.block ≠ g → ((((w'.setCell ⟨g, k * 4, none⟩ (.string x0)).setCell ⟨g, k * 4 + 1, none⟩ (.int .i64 x1)).setCell ⟨g, k * 4 + 2, none⟩ (.int .i64 x2)).setCell ⟨g, k * 4 + 3, none⟩ (.int .i64 x3)).cell? p = w'.cell? p := fun p hp => by
          rw [cell_set_other _ _ p _ hp, cell_set_other _ _ p _ hp, cell_set_other _ _ p _ hp, cell_set_other _ _ p _ hp]
        have n0 : w.heap.size ≠ g := by have := HLW.out; omega
        have n1 : wr.heap.size ≠ g := by omega
        exact ⟨(q ⟨w.heap.size, 0, none⟩ n0).trans h.1, (q ⟨wr.heap.size, 0, none⟩ n1).trans h.2.1, (q ⟨wr.heap.size, 1, none⟩ n1).trans h.2.2.1, (q ⟨wr.heap.size, 2, none⟩ n1).trans h.2.2.2.1, (q ⟨wr.heap.size, 3, none⟩ n1).trans h.2.2.2.2⟩
      go_region_held3 (fun w' => w'.cell? ⟨w.heap.size, 0, none⟩ = some (.slice (some ⟨g, 0, none⟩) n c) ∧ w'.cell? ⟨wr.heap.size, 0, none⟩ = some (.string x0) ∧ w'.cell? ⟨wr.heap.size, 1, none⟩ = some (.int .i64 x1) ∧ w'.cell? ⟨wr.heap.size, 2, none⟩ = some (.int .i64 x2) ∧ w'.cell? ⟨wr.heap.size, 3, none⟩ = some (.int .i64 x3))
        (first | with_reducible exact ⟨y0, y1, y2, y3, y4⟩ | with_reducible exact HCC.out _ hbx | with_reducible exact HCC.out _ hbx.drew | with_reducible exact HCS.out _ (HCC.out _ hbx))
        (first
          | (go_at_call 93; refine (hR _).mono ?_; rintro e w5 ⟨rfl, hb5⟩; have hbx : Below V.heap.size V w5 := (by first | exact below_after_of hbx hb5 | exact below_after_of hbx.drew hb5); have ho5 := (HIV.out _ hbx).own; have f0 := ho5.frozenAt (k * 4); have f1 := ho5.frozenAt (k * 4 + 1); have f2 := ho5.frozenAt (k * 4 + 2); have f3 := ho5.frozenAt (k * 4 + 3); obtain ⟨z0, e0⟩ := own_some4 ho5 (j := k * 4) (by omega); obtain ⟨z1, e1⟩ := own_some4 ho5 (j := k * 4 + 1) (by omega); obtain ⟨z2, e2⟩ := own_some4 ho5 (j := k * 4 + 2) (by omega); obtain ⟨z3, e3⟩ := own_some4 ho5 (j := k * 4 + 3) (by omega)))
      have I5 := HIV.out _ hbx
      have s1 := (ho5.stored (k * 4) (.string x0)).1
      have s2 := (s1.stored (k * 4 + 1) (.int .i64 x1)).1
      have s3 := (s2.stored (k * 4 + 2) (.int .i64 x2)).1
      have s4 := (s3.stored (k * 4 + 3) (.int .i64 x3)).1
      rw [HFS.out] at s4
      have hgN : ∀ (x : Nat), x < W.heap.size → x ≠ g := fun x hx => by omega
      have hN0 : w.heap.size ≠ g := hgN _ (by have := HLW.out; omega)
      have hN1 : w.heap.size + 1 ≠ g := hgN _ HLW.out
      have HI5 : Hid (OdI w.heap.size W.heap.size w (some ⟨g, 0, none⟩) n c l ((((w5.setCell ⟨g, k * 4, none⟩ (.string x0)).setCell ⟨g, k * 4 + 1, none⟩ (.int .i64 x1)).setCell ⟨g, k * 4 + 2, none⟩ (.int .i64 x2)).setCell ⟨g, k * 4 + 3, none⟩ (.int .i64 x3))) := (by
        have hgw : w.heap.size ≤ g := by have := HLW.out; omega
        refine ⟨(((I5.below.setCell hgw _).setCell hgw _).setCell hgw _).setCell hgw _, ?_, ?_, s4⟩
        · rw [heap_setCell_other _ _ _ _ (by exact hN0), heap_setCell_other _ _ _ _ (by exact hN0), heap_setCell_other _ _ _ _ (by exact hN0), heap_setCell_other _ _ _ _ (by exact hN0)]
          exact I5.box
        · rw [heap_setCell_other _ _ _ _ (by exact hN1), heap_setCell_other _ _ _ _ (by exact hN1), heap_setCell_other _ _ _ _ (by exact hN1), heap_setCell_other _ _ _ _ (by exact hN1)]
          exact I5.res : OdI w.heap.size W.heap.size w (some ⟨g, 0, none⟩) n c l ((((w5.setCell ⟨g, k * 4, none⟩ (.string x0)).setCell ⟨g, k * 4 + 1, none⟩ (.int .i64 x1)).setCell ⟨g, k * 4 + 2, none⟩ (.int .i64 x2)).setCell ⟨g, k * 4 + 3, none⟩ (.int .i64 x3)))
      have HS5 : Hid (W.heap.size ≤ ((((w5.setCell ⟨g, k * 4, none⟩ (.string x0)).setCell ⟨g, k * 4 + 1, none⟩ (.int .i64 x1)).setCell ⟨g, k * 4 + 2, none⟩ (.int .i64 x2)).setCell ⟨g, k * 4 + 3, none⟩ (.int .i64 x3)).heap.size) := (by have := hbx.size; have := HVr.out; have := HWr.out; simp; omega : W.heap.size ≤ ((((w5.setCell ⟨g, k * 4, none⟩ (.string x0)).setCell ⟨g, k * 4 + 1, none⟩ (.int .i64 x1)).setCell ⟨g, k * 4 + 2, none⟩ (.int .i64 x2)).setCell ⟨g, k * 4 + 3, none⟩ (.int .i64 x3)).heap.size)
      clear I5 s1 s2 s3 s4 ho5 hN0 hN1 hgN hR HCC HIV y0 y1 y2 y3 y4 hb5 hbx
      go_wp2
      go_roundw
      case rel => exact ⟨k + 1, by omega, by go_num, HI5, HS5⟩
      case measure => simp [intOf]; omega
    · have hkn : k = n := by omega
      subst hkn
      obtain ⟨k1, -⟩ := one_cellF HI.out.box
      obtain ⟨k2, f2⟩ := one_cellF HI.out.res
      have hsz : w.heap.size + 1 < wr.heap.size := (Array.getElem?_eq_some_iff.1 HI.out.res).1
      go_wp2
      refine bodyPost_ret (v := .agg #[.slice a k c]) (by simp [results, Tryz.results39, go_sem, k2]) rfl ⟨a, c, rfl, HI.out.below.setCell (Nat.le_succ _) _, ?_⟩
      exact own_mono (ownsRow_setCell_below HI.out.own (by show w.heap.size + 1 < W.heap.size; exact HLW.out) _) (by have := HLW.out; omega)
end U
end Go.Proofs.YtjhmfaibpnagcaaGreat
