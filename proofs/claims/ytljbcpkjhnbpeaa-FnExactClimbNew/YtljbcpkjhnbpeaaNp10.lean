/- What comes of climbing a trail, as the model finds it. -/
import Derived.Test.YtljbcpkjhnbpeaaNp5
import Derived.Test.YtljbcpkjhnbpeaaNp9
namespace Go.Proofs.Ytljbcpkjhnbpeaa
open Go.RowKit
namespace U
set_option maxRecDepth 100000 in
set_option maxHeartbeats 1000000 in
theorem l2Tag9_any (a : Option Addr) (c : Nat) (w : World) : Calls Try.prog 90 #[.int .i64 9, .slice a 0 c] w fun e w' => e = .returned (.int .i64 (sumL (tagL 9 []))) ∧ Below w.heap.size w w' := by
  have hB := fun w h => l2Bytes_any 9 (.slice a 0 c) [] w h (by simp) (by omega) rfl
  have hS := fun v w h => l2Sum_any v (tagL 9 []) w h (tagL_bts (by omega) rfl) (by rw [tagL_len]; simp)
  generalize sumL (tagL 9 []) = s at *
  generalize tagL 9 [] = ys at *
  go_enter Try.func90, Try.ntmps90
  go_wp2_with fail
  refine (hB _ (Or.inl ⟨rfl, _, _, rfl⟩)).mono ?_
  rintro e w1 ⟨v', rfl, own1, hb1⟩
  have HI : Hid (Ints .u8 w1 v' ys) := own_ints own1
  obtain ⟨a1, c1, rfl⟩ := own_shape own1
  clear hB own1
  go_wp2_with fail
  refine (hS _ _ HI.out).mono ?_
  rintro e w2 ⟨rfl, rfl⟩
  clear hS
  go_wp2
  go_ret
  exact ⟨rfl, hb1⟩
set_option maxRecDepth 100000 in
set_option maxHeartbeats 1000000 in
theorem l7Climb_none (key : Int) (p : Nat) (k y : Int) (sv : Value) (n : Int) (w : World) (H : TlBlk w p false k y sv) :
    Calls Try.prog 52 #[.int .i64 key, .pointer (some ⟨p, 0, none⟩), .int .i64 n] w fun e w' => e = .returned (.int .i64 (sumL (tagL 9 []))) ∧ Below w.heap.size w w' := by
  have hT := fun w => l2Tag9_any none 0 w
  obtain ⟨c0, c1, c2, c3⟩ := H.cells
  clear H
  generalize sumL (tagL 9 []) = s at *
  go_enter Try.func52, Try.ntmps52
  go_wp2_with fail
  refine (hT _).mono ?_
  rintro e w1 ⟨rfl, hb1⟩
  clear hT
  go_wp2
  go_ret
  exact ⟨rfl, hb1⟩
set_option maxRecDepth 100000 in
set_option maxHeartbeats 2000000 in
theorem l7Climb_some (key : Int) (p : Nat) (k y : Int) (ad : Option Addr) (len c m : Nat) (f : Prl) (w : World) (H : TlBlk w p true k y (.slice ad len c)) (hv : Prs w (.slice ad len c) f) (HN : Hid (len = f.length)) (hk : 0 ≤ key ∧ key ≤ 255)
    (hkk : 0 ≤ k ∧ k ≤ 255) (hy : 0 ≤ y ∧ y ≤ 65520) (hm : m ≤ len) (hlen : len ≤ 8) (hfk : fkF f = 0) :
    Calls Try.prog 52 #[.int .i64 key, .pointer (some ⟨p, 0, none⟩), .int .i64 (m : Int)] w fun e w' => e = .returned (.int .i64 (clmN key f (lfS true k y) m)) ∧ Below w.heap.size w w' := by
  have hT := fun u w hu => l2Tag2_any 4 k y u w (by omega) hu (by omega) hy
  have HLF : Hid (sumL (tagL 4 [k, y]) = lfS true k y) := rfl
  obtain ⟨c0, c1, c2, c3⟩ := H.cells
  have hp := H.lt
  have HH : Hid (∀ w', Below w.heap.size w w' → TlBlk w' p true k y (.slice ad len c)) := fun w' h => H.below h
  have HC : Hid (∀ w', Below w.heap.size w w' → w'.cell? ⟨p, 1, none⟩ = some (.int .i64 k) ∧ w'.cell? ⟨p, 2, none⟩ = some (.int .i64 y)) := fun w' h => ⟨(HH.out w' h).cells.2.1, (HH.out w' h).cells.2.2.1⟩
  have HV : Hid (0 < len → ∃ b off, ad = some ⟨b, off, none⟩ ∧ b < w.heap.size ∧ ∀ j, j < len → w.cell? ⟨b, off + j * 2, none⟩ = some (.int .i64 (pAt f j).1) ∧ w.cell? ⟨b, off + j * 2 + 1, none⟩ = some (.int .i64 (pAt f j).2)) := (fun h0 => by
    have hl := HN.out
    obtain ⟨-, b, off, e, hb, hc⟩ := hv.at (by omega)
    exact ⟨b, off, e, hb, fun j hj => hc j (by omega)⟩ : 0 < len → _)
  have HFK : Hid (∀ j, j < len → (0 ≤ (pAt f j).1 ∧ (pAt f j).1 ≤ 7) ∧ (0 ≤ (pAt f j).2 ∧ (pAt f j).2 ≤ 65520)) := (fun j hj => fkB_bd (fkS_at hfk (k := j) (by have := HN.out; omega)).1 : ∀ j, j < len → _)
  have HS : Hid (∀ j, 0 ≤ clmN key f (lfS true k y) j ∧ clmN key f (lfS true k y) j ≤ 65520) := fun j => clmN_bd (lfS_bd true k y) j
  have hbr := Below.refl w.heap.size w
  rw [HLF.out] at hT
  obtain ⟨s0, hs0⟩ : ∃ s0, s0 = lfS true k y := ⟨_, rfl⟩
  rw [← hs0] at hT HS ⊢
  clear H hv hfk HLF hs0
  go_enter Try.func52, Try.ntmps52
  go_wp2_with fail
  go_region_held3 (fun w' => w'.cell? ⟨p, 1, none⟩ = some (.int .i64 k) ∧ w'.cell? ⟨p, 2, none⟩ = some (.int .i64 y))
    (first | exact ⟨c1, c2⟩ | exact HC.out _ hbr | exact HC.out _ hbr.drew | exact HC.out _ (hbr.alloc hbr.size _) | exact HC.out _ (hbr.alloc hbr.size _).drew | exact HC.out _ (hbr.drew.alloc hbr.drew.size _))
    (first
      | (go_at_call 90; refine (hT _ _ (by first | exact two_ints_at rfl | exact (two_ints_at rfl).below (Below.refl _ _).drew)).mono ?_; rintro e wt ⟨rfl, hbt⟩; have hbr : Below w.heap.size w wt := (by first | exact below_after_of (hbr.alloc hbr.size _) hbt | exact below_after_of (hbr.alloc hbr.size _).drew hbt | exact below_after_of (hbr.drew.alloc hbr.drew.size _) hbt)))
  have HBT : Hid (Below w.heap.size w wt) := hbr
  clear hT hbr hbt HC c0 c1 c2 c3
  go_wp2
  go_loopw [7, 8] (fun s i wr => ∃ j : Nat, j ≤ m ∧ i = .int .i64 (j : Int) ∧ s = .int .i64 (clmN key f s0 j) ∧ Hid (Below w.heap.size w wr)) (fun _ i _ => m - (intOf i).toNat)
  case atStart => exact ⟨0, Nat.zero_le _, rfl, rfl, HBT⟩
  case round =>
    obtain ⟨j, hj, rfl, rfl, hB⟩ := hrel
    by_cases hjm : j < m
    · have hji : (j : Int) < (m : Int) := by omega
      have hjl : (j : Int) < (len : Int) := by omega
      obtain ⟨b, off, rfl, hb, hc⟩ := HV.out (by omega)
      have q0 := (hB.out.cell (p := ⟨b, off + j * 2, none⟩) hb).trans (hc j (by omega)).1
      have q1 := (hB.out.cell (p := ⟨b, off + j * 2 + 1, none⟩) hb).trans (hc j (by omega)).2
      obtain ⟨-, -, -, d3⟩ := (HH.out _ hB.out).cells
      have hN := l7Node_any key (pAt f j).1 (pAt f j).2 (clmN key f s0 j) b (off + j * 2) wr hk (HFK.out j (by omega)).1 (HFK.out j (by omega)).2 (HS.out j) (by have := hB.out.size; omega) q0 q1
      have hbts := tagL_bts (tag := 5) (xs := ndL key (pAt f j).1 (pAt f j).2 (clmN key f s0 j)) (by omega) (ndL_ok (HFK.out j (by omega)).1 (HFK.out j (by omega)).2 (HS.out j))
      have hSm := fun v w h => l2Sum_any v (tagL 5 (ndL key (pAt f j).1 (pAt f j).2 (clmN key f s0 j))) w h hbts (by rw [tagL_len, ndL_len]; omega)
      have HNX : Hid (clmN key f s0 (j + 1) = sumL (tagL 5 (ndL key (pAt f j).1 (pAt f j).2 (clmN key f s0 j)))) := rfl
      generalize sumL (tagL 5 (ndL key (pAt f j).1 (pAt f j).2 (clmN key f s0 j))) = q at *
      generalize tagL 5 (ndL key (pAt f j).1 (pAt f j).2 (clmN key f s0 j)) = ys at *
      generalize clmN key f s0 j = sj at *
      clear hc hbts q0 q1 HV
      go_wp2_with fail
      refine hN.mono ?_
      rintro e w3 ⟨a3, c3, rfl, hb3, o3⟩
      have I3 := own_ints o3
      have hB3 := below_after_of hB.out hb3
      clear hN hb3 o3
      go_wp2_with fail
      refine (hSm _ _ I3).mono ?_
      rintro e w4 ⟨rfl, rfl⟩
      clear hSm I3
      go_wp2
      go_roundw
      case rel => exact ⟨j + 1, by omega, by go_num, by rw [HNX.out], hB3⟩
      case measure => simp [intOf]; omega
    · have hjm : j = m := by omega
      subst hjm
      go_wp2
      go_ret
      exact ⟨rfl, hB.out⟩
end U
end Go.Proofs.Ytljbcpkjhnbpeaa
