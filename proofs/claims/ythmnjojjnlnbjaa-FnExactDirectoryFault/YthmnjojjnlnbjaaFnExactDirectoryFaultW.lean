/- The law on DirectoryFault, walked: true, and nothing that was there has turned. -/
import Derived.Test.YthmnjojjnlnbjaaDrE
namespace Go.Proofs.Ythmnjojjnlnbjaa
open Go.RowKit
namespace U
theorem one_cellV {w : World} {g : Nat} {x : Value} {t : TypeId} (h : w.heap[g]? = some (.cells #[x] t)) : w.cell? ⟨g, 0, none⟩ = some x := by unfold World.cell?; rw [h]; rfl
set_option maxRecDepth 100000 in
set_option maxHeartbeats 2000000 in
theorem fnExactDirectoryFault_walk (v : Value) (l : Rcl) (w : World) (hv : Rcs w v l) (hl : l.length ≤ maxLen) (hM : LbM l) :
    Calls Try.prog 5 #[.agg #[v]] w fun e w' => e = .returned (.bool true) ∧ Below w.heap.size w w' := by
  have hZ := szDirectory_any v l 1048576 (w.alloc (.cells #[v] 65)) (hv.below (one_new _)) hM hl (by omega)
  have hok := fun h => szR_ok (l := l) (z := 1048576) (by omega) h
  have A0 := heap_alloc_new w (.cells #[v] 65)
  obtain ⟨a, c, rfl⟩ := hv.shape
  generalize szR l 1048576 = z at *
  by_cases h : z < 0
  · generalize l.length = n at *
    clear hv hok hM
    go_enter Try.func5, Try.ntmps5
    go_wp2_with fail
    refine hZ.mono ?_
    rintro e w1 ⟨rfl, hb1⟩
    clear hZ
    go_wp2
    go_ret
    exact ⟨rfl, below_after hb1⟩
  · obtain ⟨hx, hL, -, -⟩ := hok h
    have hT := fun w' hb => toDirectory_any _ l w' (hv.below (w' := w') hb) hx
    have hS := fun u w' hu => specDirectoryFault_any u l w' hu hL (by omega)
    have hI := fun u w' hu => implDirectoryFault_any u l w' hu hL (by omega)
    have hE := fun u v w' hu hv => eqDirectory_same u v l w' hu hv hx
    generalize dirF l = q at *
    obtain ⟨n, hn⟩ : ∃ n, n = l.length := ⟨_, rfl⟩
    rw [← hn] at hZ hT hl hx A0 ⊢
    clear hn hv hok hM hL
    go_enter Try.func5, Try.ntmps5
    go_wp2_with fail
    refine hZ.mono ?_
    rintro e w1 ⟨rfl, hb1⟩
    have B1 := (hb1.block w.heap.size (by simp)).trans A0
    have c1 := one_cellV B1
    have hB1 := below_after hb1
    have hz1 : w.heap.size < w1.heap.size := (Array.getElem?_eq_some_iff.1 B1).1
    clear hZ hb1 A0
    go_wp2_with fail
    refine (hT _ hB1).mono ?_
    rintro e w2 ⟨a2, c2, rfl, hb2, o2⟩
    have B2 := (hb2.block w.heap.size hz1).trans B1
    have hB2 := below_after_of hB1 hb2
    clear hb2 B1 c1 hB1
    go_wp2_with fail
    refine (hS _ _ (own_rcs' o2)).mono ?_
    rintro e w3 ⟨rfl, hb3⟩
    have B3 := (hb3.block w.heap.size (Array.getElem?_eq_some_iff.1 B2).1).trans B2
    have c3 := one_cellV B3
    have hB3 := below_after_of hB2 hb3
    clear hb3 B2 o2 hB2 hS hz1
    go_wp2_with fail
    refine (hT _ hB3).mono ?_
    rintro e w4 ⟨a4, c4, rfl, hb4, o4⟩
    have B4 := (hb4.block w.heap.size (Array.getElem?_eq_some_iff.1 B3).1).trans B3
    have hB4 := below_after_of hB3 hb4
    have A4 := heap_alloc_new w4 (.cells #[.slice a4 n c4] 26)
    have R4 : Rcs (w4.alloc (.cells #[.slice a4 n c4] 26)) (.slice a4 n c4) l := (own_rcs' o4).below (one_new _)
    have hI4 := hI _ _ R4
    clear hb4 B3 c3 hB3 o4
    go_wp2_with fail
    refine hI4.mono ?_
    rintro e w5 ⟨rfl, hb5⟩
    have hz4 : w4.heap.size < (w4.alloc (.cells #[.slice a4 n c4] 26)).heap.size := by simp
    have B5 := (hb5.block w.heap.size (Nat.lt_trans (Array.getElem?_eq_some_iff.1 B4).1 hz4)).trans (((one_new _).block w.heap.size (Array.getElem?_eq_some_iff.1 B4).1).trans B4)
    have A5 := (hb5.block w4.heap.size hz4).trans A4
    have R5 := R4.below hb5
    have hB5 := below_after_of (hB4.alloc hB4.size _) hb5
    have c5 := one_cellV B5
    have d5 := one_cellV A5
    have hlt5 := (Array.getElem?_eq_some_iff.1 A5).1
    have hlw5 := (Array.getElem?_eq_some_iff.1 B5).1
    have hnn := hne_all q
    have qc := After.cell c5
    have qd := After.cell d5
    have HT5 : Hid (∀ w', Below w5.heap.size w5 w' → Calls Try.prog 36 #[.agg #[.slice a n c]] w' fun e w'' => ∃ a c, e = .returned (.agg #[.slice a n c]) ∧ Below w'.heap.size w' w'' ∧ w''.ownsRow w'.heap.size 28 4 (.slice a n c) n (flR l)) := fun w' h => hT w' (below_after_of hB5 h)
    have HE5 : Hid (∀ w' u, Below w5.heap.size w5 w' → Rcs w' u l → Calls Try.prog 37 #[.agg #[.slice a4 n c4], .agg #[u]] w' fun e w'' => e = .returned (.bool true) ∧ Below w'.heap.size w' w'') := fun w' u h hu => hE _ _ w' (R5.below h) hu
    have hbr := Below.refl w5.heap.size w5
    have HC5 : Hid (∀ w', Below w5.heap.size w5 w' → w'.cell? ⟨w.heap.size, 0, none⟩ = some (.slice a n c) ∧ w'.cell? ⟨w4.heap.size, 0, none⟩ = some (.slice a4 n c4)) := fun w' h => ⟨(h.cell (p := ⟨w.heap.size, 0, none⟩) hlw5).trans c5, (h.cell (p := ⟨w4.heap.size, 0, none⟩) hlt5).trans d5⟩
    clear hI hI4 B4 A4 R4 hb5 B5 A5 R5 hT hE qc qd hB4
    go_wp2_with fail
    go_region_held3 (fun w' => w'.cell? ⟨w.heap.size, 0, none⟩ = some (.slice a n c) ∧ w'.cell? ⟨w4.heap.size, 0, none⟩ = some (.slice a4 n c4))
      (first | exact ⟨c5, d5⟩ | exact HC5.out _ hbr | exact HC5.out _ hbr.drew)
      (first
        | (go_at_call 36; refine (HT5.out _ (by first | exact hbr | exact hbr.drew)).mono ?_; rintro e w6 ⟨a6, c6, rfl, hb6, o6⟩; have hbr : Below w5.heap.size w5 w6 := (by first | exact below_after_of hbr hb6 | exact below_after_of hbr.drew hb6))
        | (go_at_call 37; refine (HE5.out _ _ (by first | exact hbr | exact hbr.drew) (own_rcs' o6)).mono ?_; rintro e w7 ⟨rfl, hb7⟩; have hbr : Below w5.heap.size w5 w7 := (by first | exact below_after_of hbr hb7 | exact below_after_of hbr.drew hb7)))
    have hB7 := below_after_of hB5 hbr
    clear HT5 HE5 HC5 o6
    go_wp2
    go_ret
    exact ⟨rfl, hB7⟩
end U
end Go.Proofs.Ythmnjojjnlnbjaa
