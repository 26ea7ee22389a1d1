/- The law on SameDirectories, walked: true, and nothing that was there has turned. -/
import Derived.Test.YthmnjojjnlnbjaaDrS
namespace Go.Proofs.Ythmnjojjnlnbjaa
open Go.RowKit
namespace U

/-- Copies of the two directories. -/
structure ToA (w : World) (a : Option Addr) (n c : Nat) (l : Rcl) : Prop where
  c : ∀ w', Below w.heap.size w w' → Calls Try.prog 36 #[.agg #[.slice a n c]] w' fun e w'' => ∃ a c, e = .returned (.agg #[.slice a n c]) ∧ Below w'.heap.size w' w'' ∧ w''.ownsRow w'.heap.size 28 4 (.slice a n c) n (flR l)
structure ToB (w : World) (a : Option Addr) (n c : Nat) (l : Rcl) : Prop where
  c : ∀ w', Below w.heap.size w w' → Calls Try.prog 36 #[.agg #[.slice a n c]] w' fun e w'' => ∃ a c, e = .returned (.agg #[.slice a n c]) ∧ Below w'.heap.size w' w'' ∧ w''.ownsRow w'.heap.size 28 4 (.slice a n c) n (flR l)
set_option maxRecDepth 100000 in
set_option maxHeartbeats 4000000 in
theorem fnExactSameDirectories_walk (v : Value) (l : Rcl) (u : Value) (m : Rcl) (w : World) (hv : Rcs w v l) (hl : l.length ≤ maxLen) (hM : LbM l) (hu : Rcs w u m) (hm : m.length ≤ maxLen) (hM' : LbM m) :
    Calls Try.prog 10 #[.agg #[v], .agg #[u]] w fun e w' => e = .returned (.bool true) ∧ Below w.heap.size w w' := by
  obtain ⟨W, hW⟩ : ∃ W, W = (w.alloc (.cells #[v] 65)).alloc (.cells #[u] 65) := ⟨_, rfl⟩
  have HW : Hid ((w.alloc (.cells #[v] 65)).alloc (.cells #[u] 65) = W) := hW.symm
  have hBW : Below w.heap.size w W := by rw [hW]; exact two_new _ _
  have HB : Hid (W.heap[w.heap.size]? = some (.cells #[v] 65) ∧ W.heap[w.heap.size + 1]? = some (.cells #[u] 65)) := (by
    rw [hW]
    have h1 := heap_alloc_new (w.alloc (.cells #[v] 65)) (.cells #[u] 65)
    rw [World.size_alloc] at h1
    exact ⟨((one_new _).block w.heap.size (by simp)).trans (heap_alloc_new w _), h1⟩ : _ ∧ _)
  have hZ := szDirectory_any v l 1048576 W (hv.below hBW) hM hl (by omega)
  have hok := fun h => szR_ok (l := l) (z := 1048576) (by omega) h
  have hZ2 := fun z w' h hz => szDirectory_any u m z w' ((hu.below hBW).below (w' := w') h) hM' hm hz
  have hok2 := fun z hz h => szR_ok (l := m) (z := z) hz h
  obtain ⟨a, c, rfl⟩ := hv.shape
  obtain ⟨a', c', rfl⟩ := hu.shape
  generalize szR l 1048576 = z at *
  clear hW
  by_cases h : z < 0
  · generalize l.length = n at *
    generalize m.length = k at *
    clear hv hok hM hZ2 hok2 hu hM'
    go_enter Try.func10, Try.ntmps10
    go_wp2_with fail
    rw [HW.out]
    refine hZ.mono ?_
    rintro e w1 ⟨rfl, hb1⟩
    clear hZ
    go_wp2
    go_ret
    exact ⟨rfl, below_after_of hBW hb1⟩
  · obtain ⟨hx, hL, hz1, -⟩ := hok h
    have hZ3 := fun w' h => hZ2 z w' h (by omega)
    have hok3 := hok2 z hz1
    generalize szR m z = z2 at *
    have k1 := one_cellV HB.out.2
    by_cases h2 : z2 < 0
    · generalize l.length = n at *
      generalize m.length = k at *
      clear hv hok hM hZ2 hok2 hu hM' hok3
      go_enter Try.func10, Try.ntmps10
      go_wp2_with fail
      rw [HW.out]
      refine hZ.mono ?_
      rintro e w1 ⟨rfl, hb1⟩
      have k2 := (hb1.cell (p := ⟨w.heap.size + 1, 0, none⟩) (Array.getElem?_eq_some_iff.1 HB.out.2).1).trans k1
      clear hZ k1
      go_wp2_with fail
      refine (hZ3 _ hb1).mono ?_
      rintro e w2 ⟨rfl, hb2⟩
      clear hZ3
      go_wp2
      go_ret
      exact ⟨rfl, below_after_of (below_after_of hBW hb1) hb2⟩
    · obtain ⟨hy, hL', -, -⟩ := hok3 h2
      have HTA : ToA w a l.length c l := ⟨fun w' hb => toDirectory_any _ l w' (hv.below (w' := w') hb) hx⟩
      have HTB : ToB w a' m.length c' m := ⟨fun w' hb => toDirectory_any _ m w' (hu.below (w' := w') hb) hy⟩
      have hS := fun u v w' hu hv => specSameDirectories_any u v l m w' hu hv hx hy
      have hI := fun u v w' hu hv => implSameDirectories_any u v l m w' hu hv hx hy
      have hE := fun u v w' hu hv => eqDirectory_same u v l w' hu hv hx
      have hE' := fun u v w' hu hv => eqDirectory_same u v m w' hu hv hy
      have hbne : ∀ q : Bool, (q != q) = false := fun q => by cases q <;> rfl
      generalize sameL l m = q at *
      obtain ⟨n, hn⟩ : ∃ n, n = l.length := ⟨_, rfl⟩
      obtain ⟨k, hk⟩ : ∃ k, k = m.length := ⟨_, rfl⟩
      rw [← hn] at hZ HTA HB HW ⊢
      rw [← hk] at hZ3 HTB HB HW k1 ⊢
      have HLA : Hid (w.heap.size < W.heap.size ∧ w.heap.size + 1 < W.heap.size) := ⟨(Array.getElem?_eq_some_iff.1 HB.out.1).1, (Array.getElem?_eq_some_iff.1 HB.out.2).1⟩
      have HC : Hid (∀ w', Below W.heap.size W w' → w'.cell? ⟨w.heap.size, 0, none⟩ = some (.slice a n c) ∧ w'.cell? ⟨w.heap.size + 1, 0, none⟩ = some (.slice a' k c')) := fun w' h => ⟨(h.cell (p := ⟨w.heap.size, 0, none⟩) HLA.out.1).trans (one_cellV HB.out.1), (h.cell (p := ⟨w.heap.size + 1, 0, none⟩) HLA.out.2).trans (one_cellV HB.out.2)⟩
      clear hn hk hv hu hok hM hZ2 hok2 hM' hok3 hL hL' hl hm
      go_enter Try.func10, Try.ntmps10
      go_wp2_with fail
      rw [HW.out]
      refine hZ.mono ?_
      rintro e w1 ⟨rfl, hb1⟩
      have k2 := (HC.out _ hb1).2
      clear hZ k1
      go_wp2_with fail
      refine (hZ3 _ hb1).mono ?_
      rintro e w2 ⟨rfl, hb2⟩
      have hb2 := below_after_of hb1 hb2
      obtain ⟨k2, k3⟩ := HC.out _ hb2
      have hbr : Below w.heap.size w w2 := below_after_of hBW hb2
      have hbW := hb2
      clear hZ3 hb1
      go_wp2_with fail
      go_region_held3 (fun w' => w'.cell? ⟨w.heap.size, 0, none⟩ = some (.slice a n c) ∧ w'.cell? ⟨w.heap.size + 1, 0, none⟩ = some (.slice a' k c'))
        (first | exact ⟨k2, k3⟩ | exact HC.out _ hbW | exact HC.out _ hbW.drew)
        (first
          | (go_at_call 36; refine (ToA.c (by assumption) _ (by first | exact hbr | exact hbr.drew)).mono ?_; rintro e w5 ⟨a5, c5, rfl, hb5, o5⟩; have R5 := own_rcs' o5; clear o5; have hbW : Below W.heap.size W w5 := (by first | exact below_after_of hbW hb5 | exact below_after_of hbW.drew hb5); have hbr : Below w.heap.size w w5 := below_after_of hBW hbW)
          | (go_at_call 36; refine (ToB.c (by assumption) _ (by first | exact hbr | exact hbr.drew)).mono ?_; rintro e w6 ⟨a6, c6, rfl, hb6, o6⟩; have R6 := own_rcs' o6; have R5 := R5.below hb6; clear o6; have hbW : Below W.heap.size W w6 := (by first | exact below_after_of hbW hb6 | exact below_after_of hbW.drew hb6); have hbr : Below w.heap.size w w6 := below_after_of hBW hbW)
          | (go_at_call 50; refine (hS _ _ _ R5 R6).mono ?_; rintro e w7 ⟨rfl, hb7⟩; have hbW : Below W.heap.size W w7 := below_after_of hbW hb7; have hbr : Below w.heap.size w w7 := below_after_of hBW hbW))
      obtain ⟨k2, k3⟩ := HC.out _ hbW
      clear hS R5 R6 hb5 hb6 hb7
      go_wp2_with fail
      refine (HTA.c _ hbr).mono ?_
      rintro e w8 ⟨a8, c8, rfl, hb8, o8⟩
      have hbW := below_after_of hbW hb8
      have R8 : Rcs (w8.alloc (.cells #[.slice a8 n c8] 26)) (.slice a8 n c8) l := (own_rcs' o8).below (one_new _)
      have A8 := heap_alloc_new w8 (.cells #[.slice a8 n c8] 26)
      have hbW : Below W.heap.size W (w8.alloc (.cells #[.slice a8 n c8] 26)) := hbW.alloc hbW.size _
      obtain ⟨k2, k3⟩ := HC.out _ hbW
      have hbr := below_after_of hBW hbW
      clear o8 hb8
      go_wp2_with fail
      refine (HTB.c _ hbr).mono ?_
      rintro e w9 ⟨a9, c9, rfl, hb9, o9⟩
      have R8 := (R8.below hb9).below (one_new (.cells #[.slice a9 k c9] 26))
      have R9 : Rcs (w9.alloc (.cells #[.slice a9 k c9] 26)) (.slice a9 k c9) m := (own_rcs' o9).below (one_new _)
      have A8 := ((one_new (.cells #[.slice a9 k c9] 26)).block w8.heap.size (Nat.lt_of_lt_of_le (by simp) hb9.size)).trans ((hb9.block w8.heap.size (by simp)).trans A8)
      have A9 := heap_alloc_new w9 (.cells #[.slice a9 k c9] 26)
      have hbW := below_after_of hbW hb9
      have hbW : Below W.heap.size W (w9.alloc (.cells #[.slice a9 k c9] 26)) := hbW.alloc hbW.size _
      have hz89 : w8.heap.size < w9.heap.size := Nat.lt_of_lt_of_le (by simp) hb9.size
      have j8 := one_cellV A8
      have j9 := one_cellV A9
      have hI9 := hI _ _ _ R8 R9
      clear o9 hb9 hI
      go_wp2_with fail
      refine hI9.mono ?_
      rintro e w10 ⟨rfl, hb10⟩
      have R8 := R8.below hb10
      have R9 := R9.below hb10
      have A8 := (hb10.block w8.heap.size (by simp; omega)).trans A8
      have A9 := (hb10.block w9.heap.size (by simp)).trans A9
      have hbW := below_after_of hbW hb10
      have hbr := below_after_of hBW hbW
      obtain ⟨k2, k3⟩ := HC.out _ hbW
      have j8 := one_cellV A8
      have j9 := one_cellV A9
      have HC2 : Hid (∀ w', Below w10.heap.size w10 w' → w'.cell? ⟨w8.heap.size, 0, none⟩ = some (.slice a8 n c8) ∧ w'.cell? ⟨w.heap.size, 0, none⟩ = some (.slice a n c)) := fun w' h => ⟨(h.cell (p := ⟨w8.heap.size, 0, none⟩) (Array.getElem?_eq_some_iff.1 A8).1).trans j8, (HC.out _ (below_after_of hbW h)).1⟩
      have HR8 : Hid (∀ w', Below w10.heap.size w10 w' → Rcs w' (.slice a8 n c8) l) := fun w' h => R8.below h
      have HR9 : Hid (∀ w', Below w10.heap.size w10 w' → Rcs w' (.slice a9 k c9) m) := fun w' h => R9.below h
      have hlt8 := (Array.getElem?_eq_some_iff.1 A8).1
      have hlt9 := (Array.getElem?_eq_some_iff.1 A9).1
      have HA9 : Hid (w10.heap[w9.heap.size]? = some (.cells #[.slice a9 k c9] 26)) := A9
      have hbx := Below.refl w10.heap.size w10
      have HBR : Hid (∀ w', Below w10.heap.size w10 w' → Below w.heap.size w w') := fun w' h => below_after_of hbr h
      clear hI9 hb10 R8 R9 A8 A9 hbr
      go_wp2_with fail
      go_region_held3 (fun w' => w'.cell? ⟨w8.heap.size, 0, none⟩ = some (.slice a8 n c8) ∧ w'.cell? ⟨w.heap.size, 0, none⟩ = some (.slice a n c))
        (first | exact ⟨j8, k2⟩ | exact HC2.out _ hbx | exact HC2.out _ hbx.drew)
        (first
          | (go_at_call 36; refine (ToA.c (by assumption) _ (by first | exact HBR.out _ hbx | exact HBR.out _ hbx.drew)).mono ?_; rintro e w11 ⟨a11, c11, rfl, hb11, o11⟩; have hbx : Below w10.heap.size w10 w11 := (by first | exact below_after_of hbx hb11 | exact below_after_of hbx.drew hb11))
          | (go_at_call 37; refine (hE _ _ _ (HR8.out _ hbx) (own_rcs' o11)).mono ?_; rintro e w12 ⟨rfl, hb12⟩; have hbx : Below w10.heap.size w10 w12 := below_after_of hbx hb12))
      have HC3 : Hid (∀ w', Below w10.heap.size w10 w' → w'.cell? ⟨w9.heap.size, 0, none⟩ = some (.slice a9 k c9) ∧ w'.cell? ⟨w.heap.size + 1, 0, none⟩ = some (.slice a' k c')) := fun w' h => ⟨(h.cell (p := ⟨w9.heap.size, 0, none⟩) hlt9).trans (one_cellV HA9.out), (HC.out _ (below_after_of hbW h)).2⟩
      obtain ⟨j9, k3⟩ := HC3.out _ hbx
      have hlt9' := Nat.lt_of_lt_of_le hlt9 hbx.size
      clear HC2 o11 hE hb11 hb12 hlt8 hlt9
      go_wp2_with fail
      go_region_held3 (fun w' => w'.cell? ⟨w9.heap.size, 0, none⟩ = some (.slice a9 k c9) ∧ w'.cell? ⟨w.heap.size + 1, 0, none⟩ = some (.slice a' k c'))
        (first | exact ⟨j9, k3⟩ | exact HC3.out _ hbx | exact HC3.out _ hbx.drew)
        (first
          | (go_at_call 36; refine (ToB.c (by assumption) _ (by first | exact HBR.out _ hbx | exact HBR.out _ hbx.drew)).mono ?_; rintro e w13 ⟨a13, c13, rfl, hb13, o13⟩; have hbx : Below w10.heap.size w10 w13 := (by first | exact below_after_of hbx hb13 | exact below_after_of hbx.drew hb13))
          | (go_at_call 37; refine (hE' _ _ _ (HR9.out _ hbx) (own_rcs' o13)).mono ?_; rintro e w14 ⟨rfl, hb14⟩; have hbx : Below w10.heap.size w10 w14 := below_after_of hbx hb14))
      have hBE := HBR.out _ hbx
      clear HC3 o13 hE' hb13 hb14
      go_wp2
      go_ret
      exact ⟨rfl, hBE⟩
end U
end Go.Proofs.Ythmnjojjnlnbjaa
