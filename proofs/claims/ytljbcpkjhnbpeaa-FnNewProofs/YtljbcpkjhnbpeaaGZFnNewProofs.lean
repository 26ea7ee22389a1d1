/- Joined: what the texts behind it need. -/
import Derived.Test.YtljbcpkjhnbpeaaNpM
import Derived.Test.YtljbcpkjhnbpeaaTr1
import Derived.Test.YtljbcpkjhnbpeaaTr3
import Derived.Test.YtljbcpkjhnbpeaaTr6
import Derived.Test.YtljbcpkjhnbpeaaOp1
import Derived.Test.YtljbcpkjhnbpeaaGYFnNewProofs
import Derived.Test.YtljbcpkjhnbpeaaSl2
import Derived.Test.YtljbcpkjhnbpeaaRnd
import Derived.Test.YtljbcpkjhnbpeaaOwn
import Derived.Test.YtljbcpkjhnbpeaaSlL
import Derived.Test.YtljbcpkjhnbpeaaNp4
import Derived.Test.YtljbcpkjhnbpeaaTr5
import Derived.Deep.RegionHeld3
import Derived.Test.YtljbcpkjhnbpeaaRows
import Derived.WalkKit
import Derived.ProofKit
import Derived.OpenShut
import Derived.ShutString
import Derived.WalkSmall
import Derived.Test.YtljbcpkjhnbpeaaInts
/- The sum at a fork, as the program makes it; what is summed for a fork, as the model makes it. -/
namespace Go.Proofs.Ytljbcpkjhnbpeaa
open Go.RowKit
namespace U
theorem nd_tag {key b o s : Int} (hb : 0 ≤ b ∧ b ≤ 7) (ho : 0 ≤ o ∧ o ≤ 65520) (hs : 0 ≤ s ∧ s ≤ 65520) : tgC 5 (ndL key b o s) = 0 ∧ tsV 5 (ndL key b o s) = ndS key b o s := by
  have h := tg_ok (tag := 5) (xs := ndL key b o s) rfl (by rw [ndL_len]; omega) (ndL_ok hb ho hs)
  refine ⟨h.1, ?_⟩
  unfold tsV
  rw [if_pos h.1, h.2]
  rfl
theorem three_ints_at {w : World} {n : Nat} {a b c : Int} {t : TypeId} (hn : w.heap.size = n) : Ints .i64 (w.alloc (.cells #[.int .i64 a, .int .i64 b, .int .i64 c] t)) (.slice (some ⟨n, 0, none⟩) 3 3) [a, b, c] := by
  subst hn
  exact three_ints w a b c t
set_option maxRecDepth 100000 in
set_option maxHeartbeats 2000000 in
theorem forkBytes_any (key b o s : Int) (w : World) (hk : 0 ≤ key ∧ key ≤ 255) (hb : 0 ≤ b ∧ b ≤ 7) (ho : 0 ≤ o ∧ o ≤ 65520) (hs : 0 ≤ s ∧ s ≤ 65520) :
    Calls Try.prog 84 #[.int .i64 key, .agg #[.int .i64 b, .int .i64 o], .int .i64 s] w fun e w' => ∃ a c, e = .returned (.slice a (tagL 5 (ndL key b o s)).length c) ∧ Below w.heap.size w w' ∧ w'.ownsRow w.heap.size 5 1 (.slice a (tagL 5 (ndL key b o s)).length c) (tagL 5 (ndL key b o s)).length ((tagL 5 (ndL key b o s)).map (Value.int .u8)) := by
  have hB := fun w => bitOf_any key b.toNat w (by omega) hk
  have hT := fun u w hu => implTagBytes_any 5 u (ndL key b o s) w hu (by rw [ndL_len]; omega)
  have htg := tg_ok (tag := 5) (xs := ndL key b o s) rfl (by rw [ndL_len]; omega) (ndL_ok hb ho hs)
  rw [htg.1, htg.2] at hT
  rw [show ((b.toNat : Nat) : Int) = b by omega] at hB
  unfold ndL at hT ⊢
  clear htg
  rcases bitN_bd key b.toNat with hz | hz
  · rw [hz] at hB hT ⊢
    rw [if_pos rfl] at hT ⊢
    generalize tagL 5 [b, s, o] = ys at *
    clear hz
    go_enter Try.func84, Try.ntmps84
    go_wp2_with fail
    refine (hB _).mono ?_
    rintro e w1 ⟨rfl, rfl⟩
    clear hB
    go_wp2
    go_region
    go_wp2_with fail
    refine (hT _ _ ((three_ints_at (n := w.heap.size + 1 + 1) (by simp)).below (Below.refl _ _).drew)).mono ?_
    intro e w2 h2
    obtain ⟨a2, c2, rfl, hb2, own2⟩ := h2.use
    have kf := fun w => field_BR1 0 a2 ys.length c2 w
    have hB2 : Below w.heap.size w w2 := below_after_of ((((one_new _).alloc (one_new _).size _).alloc ((one_new _).alloc (one_new _).size _).size _).drew) hb2
    have HO : w2.ownsRow w.heap.size 5 1 (.slice a2 ys.length c2) ys.length (ys.map (Value.int .u8)) := own_mono own2 (show w.heap.size ≤ _ by simp; omega)
    clear hT hb2 h2 own2
    go_wp2
    go_ret
    exact ⟨_, _, rfl, hB2, HO⟩
  · rw [hz] at hB hT ⊢
    rw [if_neg (by decide)] at hT ⊢
    generalize tagL 5 [b, o, s] = ys at *
    clear hz
    go_enter Try.func84, Try.ntmps84
    go_wp2_with fail
    refine (hB _).mono ?_
    rintro e w1 ⟨rfl, rfl⟩
    clear hB
    go_wp2
    go_region
    go_wp2_with fail
    refine (hT _ _ ((three_ints_at (n := w.heap.size + 1 + 1) (by simp)).below (Below.refl _ _).drew)).mono ?_
    intro e w2 h2
    obtain ⟨a2, c2, rfl, hb2, own2⟩ := h2.use
    have kf := fun w => field_BR1 0 a2 ys.length c2 w
    have hB2 : Below w.heap.size w w2 := below_after_of ((((one_new _).alloc (one_new _).size _).alloc ((one_new _).alloc (one_new _).size _).size _).drew) hb2
    have HO : w2.ownsRow w.heap.size 5 1 (.slice a2 ys.length c2) ys.length (ys.map (Value.int .u8)) := own_mono own2 (show w.heap.size ≤ _ by simp; omega)
    clear hT hb2 h2 own2
    go_wp2
    go_ret
    exact ⟨_, _, rfl, hB2, HO⟩
set_option maxRecDepth 100000 in
set_option maxHeartbeats 2000000 in
theorem l7Node_any (key b o s : Int) (p off : Nat) (w : World) (hk : 0 ≤ key ∧ key ≤ 255) (hb : 0 ≤ b ∧ b ≤ 7) (ho : 0 ≤ o ∧ o ≤ 65520) (hs : 0 ≤ s ∧ s ≤ 65520) (hlt : p < w.heap.size)
    (c0 : w.cell? ⟨p, off, none⟩ = some (.int .i64 b)) (c1 : w.cell? ⟨p, off + 1, none⟩ = some (.int .i64 o)) :
    Calls Try.prog 91 #[.int .i64 key, .pointer (some ⟨p, off, none⟩), .int .i64 s] w fun e w' => ∃ a c, e = .returned (.slice a (tagL 5 (ndL key b o s)).length c) ∧ Below w.heap.size w w' ∧ w'.ownsRow w.heap.size 5 1 (.slice a (tagL 5 (ndL key b o s)).length c) (tagL 5 (ndL key b o s)).length ((tagL 5 (ndL key b o s)).map (Value.int .u8)) := by
  have hB := fun w => l6Bit_any key b.toNat w (by omega) hk
  have hT := fun u w hu => l2Bytes_any 5 u (ndL key b o s) w hu (by rw [ndL_len]; omega) (by omega) (ndL_ok hb ho hs)
  rw [show ((b.toNat : Nat) : Int) = b by omega] at hB
  have HC : Hid (∀ w', Below w.heap.size w w' → w'.cell? ⟨p, off, none⟩ = some (.int .i64 b) ∧ w'.cell? ⟨p, off + 1, none⟩ = some (.int .i64 o)) := fun w' h => ⟨(h.cell (p := ⟨p, off, none⟩) hlt).trans c0, (h.cell (p := ⟨p, off + 1, none⟩) hlt).trans c1⟩
  have hbr := Below.refl w.heap.size w
  rcases bitN_bd key b.toNat with hz | hz
  · have e1 : ndL key b o s = [b, s, o] := by unfold ndL; rw [hz, if_pos rfl]
    rw [hz] at hB
    rw [e1] at hT ⊢
    generalize tagL 5 [b, s, o] = ys at *
    clear hz e1
    go_enter Try.func91, Try.ntmps91
    go_wp2_with fail
    refine (hB _).mono ?_
    rintro e w1 ⟨rfl, rfl⟩
    clear hB
    go_wp2
    go_region_held3 (fun w' => w'.cell? ⟨p, off, none⟩ = some (.int .i64 b) ∧ w'.cell? ⟨p, off + 1, none⟩ = some (.int .i64 o))
      (first | exact ⟨c0, c1⟩ | exact HC.out _ hbr | exact HC.out _ hbr.drew | exact HC.out _ (hbr.alloc hbr.size _) | exact HC.out _ (hbr.alloc hbr.size _).drew | exact HC.out _ (hbr.drew.alloc hbr.drew.size _))
      (first
        | (go_at_call 106; refine (hT _ _ (by first | exact three_ints_at rfl | exact (three_ints_at rfl).below (Below.refl _ _).drew)).mono ?_; rintro e wt ⟨vt, rfl, ot, hbt⟩; have hbr : Below w1.heap.size w1 wt := (by first | exact below_after_of (hbr.alloc hbr.size _) hbt | exact below_after_of (hbr.alloc hbr.size _).drew hbt | exact below_after_of (hbr.drew.alloc hbr.drew.size _) hbt)))
    obtain ⟨at', ct', rfl⟩ := own_shape ot
    have own3 := own_mono ot (show w1.heap.size ≤ _ by simp)
    have HO : Hid (wt.ownsRow w1.heap.size 5 1 (.slice at' ys.length ct') ys.length (ys.map (Value.int .u8))) := own3
    clear hT ot own3
    go_wp2
    go_ret
    exact ⟨_, _, rfl, hbr, HO.out⟩
  · have e1 : ndL key b o s = [b, o, s] := by unfold ndL; rw [hz, if_neg (by decide)]
    rw [hz] at hB
    rw [e1] at hT ⊢
    generalize tagL 5 [b, o, s] = ys at *
    clear hz e1
    go_enter Try.func91, Try.ntmps91
    go_wp2_with fail
    refine (hB _).mono ?_
    rintro e w1 ⟨rfl, rfl⟩
    clear hB
    go_wp2
    go_region_held3 (fun w' => w'.cell? ⟨p, off, none⟩ = some (.int .i64 b) ∧ w'.cell? ⟨p, off + 1, none⟩ = some (.int .i64 o))
      (first | exact ⟨c0, c1⟩ | exact HC.out _ hbr | exact HC.out _ hbr.drew | exact HC.out _ (hbr.alloc hbr.size _) | exact HC.out _ (hbr.alloc hbr.size _).drew | exact HC.out _ (hbr.drew.alloc hbr.drew.size _))
      (first
        | (go_at_call 106; refine (hT _ _ (by first | exact three_ints_at rfl | exact (three_ints_at rfl).below (Below.refl _ _).drew)).mono ?_; rintro e wt ⟨vt, rfl, ot, hbt⟩; have hbr : Below w1.heap.size w1 wt := (by first | exact below_after_of (hbr.alloc hbr.size _) hbt | exact below_after_of (hbr.alloc hbr.size _).drew hbt | exact below_after_of (hbr.drew.alloc hbr.drew.size _) hbt)))
    obtain ⟨at', ct', rfl⟩ := own_shape ot
    have own3 := own_mono ot (show w1.heap.size ≤ _ by simp)
    have HO : Hid (wt.ownsRow w1.heap.size 5 1 (.slice at' ys.length ct') ys.length (ys.map (Value.int .u8))) := own3
    clear hT ot own3
    go_wp2
    go_ret
    exact ⟨_, _, rfl, hbr, HO.out⟩
end U
end Go.Proofs.Ytljbcpkjhnbpeaa

/- What comes of climbing a trail, as the model finds it. -/
namespace Go.Proofs.Ytljbcpkjhnbpeaa
open Go.RowKit
namespace U
set_option maxRecDepth 100000 in
set_option maxHeartbeats 1000000 in
theorem l2Tag9_any (a : Option Addr) (c : Nat) (w : World) : Calls Try.prog 90 #[.int .i64 9, .slice a 0 c] w fun e w' => e = .returned (.int .i64 (sumL (tagL 9 []))) ∧ Below w.heap.size w w' := by
  have hB := fun w h => l2Bytes_any 9 (.slice a 0 c) [] w h (by simp) (by omega) rfl
  have hS := fun v w h => l2Sum_any v (tagL 9 []) w h (tagL_bts (by omega) rfl) (by rw [tagL_len]; simp)
  generalize sumL (tagL 9 []) = s at *
  generalize tagL 9 [] = ys at *
  go_enter Try.func90, Try.ntmps90
  go_wp2_with fail
  refine (hB _ (Or.inl ⟨rfl, _, _, rfl⟩)).mono ?_
  rintro e w1 ⟨v', rfl, own1, hb1⟩
  have HI : Hid (Ints .u8 w1 v' ys) := own_ints own1
  obtain ⟨a1, c1, rfl⟩ := own_shape own1
  clear hB own1
  go_wp2_with fail
  refine (hS _ _ HI.out).mono ?_
  rintro e w2 ⟨rfl, rfl⟩
  clear hS
  go_wp2
  go_ret
  exact ⟨rfl, hb1⟩
set_option maxRecDepth 100000 in
set_option maxHeartbeats 1000000 in
theorem l7Climb_none (key : Int) (p : Nat) (k y : Int) (sv : Value) (n : Int) (w : World) (H : TlBlk w p false k y sv) :
    Calls Try.prog 52 #[.int .i64 key, .pointer (some ⟨p, 0, none⟩), .int .i64 n] w fun e w' => e = .returned (.int .i64 (sumL (tagL 9 []))) ∧ Below w.heap.size w w' := by
  have hT := fun w => l2Tag9_any none 0 w
  obtain ⟨c0, c1, c2, c3⟩ := H.cells
  clear H
  generalize sumL (tagL 9 []) = s at *
  go_enter Try.func52, Try.ntmps52
  go_wp2_with fail
  refine (hT _).mono ?_
  rintro e w1 ⟨rfl, hb1⟩
  clear hT
  go_wp2
  go_ret
  exact ⟨rfl, hb1⟩
set_option maxRecDepth 100000 in
set_option maxHeartbeats 2000000 in
theorem l7Climb_some (key : Int) (p : Nat) (k y : Int) (ad : Option Addr) (len c m : Nat) (f : Prl) (w : World) (H : TlBlk w p true k y (.slice ad len c)) (hv : Prs w (.slice ad len c) f) (HN : Hid (len = f.length)) (hk : 0 ≤ key ∧ key ≤ 255)
    (hkk : 0 ≤ k ∧ k ≤ 255) (hy : 0 ≤ y ∧ y ≤ 65520) (hm : m ≤ len) (hlen : len ≤ 8) (hfk : fkF f = 0) :
    Calls Try.prog 52 #[.int .i64 key, .pointer (some ⟨p, 0, none⟩), .int .i64 (m : Int)] w fun e w' => e = .returned (.int .i64 (clmN key f (lfS true k y) m)) ∧ Below w.heap.size w w' := by
  have hT := fun u w hu => l2Tag2_any 4 k y u w (by omega) hu (by omega) hy
  have HLF : Hid (sumL (tagL 4 [k, y]) = lfS true k y) := rfl
  obtain ⟨c0, c1, c2, c3⟩ := H.cells
  have hp := H.lt
  have HH : Hid (∀ w', Below w.heap.size w w' → TlBlk w' p true k y (.slice ad len c)) := fun w' h => H.below h
  have HC : Hid (∀ w', Below w.heap.size w w' → w'.cell? ⟨p, 1, none⟩ = some (.int .i64 k) ∧ w'.cell? ⟨p, 2, none⟩ = some (.int .i64 y)) := fun w' h => ⟨(HH.out w' h).cells.2.1, (HH.out w' h).cells.2.2.1⟩
  have HV : Hid (0 < len → ∃ b off, ad = some ⟨b, off, none⟩ ∧ b < w.heap.size ∧ ∀ j, j < len → w.cell? ⟨b, off + j * 2, none⟩ = some (.int .i64 (pAt f j).1) ∧ w.cell? ⟨b, off + j * 2 + 1, none⟩ = some (.int .i64 (pAt f j).2)) := (fun h0 => by
    have hl := HN.out
    obtain ⟨-, b, off, e, hb, hc⟩ := hv.at (by omega)
    exact ⟨b, off, e, hb, fun j hj => hc j (by omega)⟩ : 0 < len → _)
  have HFK : Hid (∀ j, j < len → (0 ≤ (pAt f j).1 ∧ (pAt f j).1 ≤ 7) ∧ (0 ≤ (pAt f j).2 ∧ (pAt f j).2 ≤ 65520)) := (fun j hj => fkB_bd (fkS_at hfk (k := j) (by have := HN.out; omega)).1 : ∀ j, j < len → _)
  have HS : Hid (∀ j, 0 ≤ clmN key f (lfS true k y) j ∧ clmN key f (lfS true k y) j ≤ 65520) := fun j => clmN_bd (lfS_bd true k y) j
  have hbr := Below.refl w.heap.size w
  rw [HLF.out] at hT
  obtain ⟨s0, hs0⟩ : ∃ s0, s0 = lfS true k y := ⟨_, rfl⟩
  rw [← hs0] at hT HS ⊢
  clear H hv hfk HLF hs0
  go_enter Try.func52, Try.ntmps52
  go_wp2_with fail
  go_region_held3 (fun w' => w'.cell? ⟨p, 1, none⟩ = some (.int .i64 k) ∧ w'.cell? ⟨p, 2, none⟩ = some (.int .i64 y))
    (first | exact ⟨c1, c2⟩ | exact HC.out _ hbr | exact HC.out _ hbr.drew | exact HC.out _ (hbr.alloc hbr.size _) | exact HC.out _ (hbr.alloc hbr.size _).drew | exact HC.out _ (hbr.drew.alloc hbr.drew.size _))
    (first
      | (go_at_call 90; refine (hT _ _ (by first | exact two_ints_at rfl | exact (two_ints_at rfl).below (Below.refl _ _).drew)).mono ?_; rintro e wt ⟨rfl, hbt⟩; have hbr : Below w.heap.size w wt := (by first | exact below_after_of (hbr.alloc hbr.size _) hbt | exact below_after_of (hbr.alloc hbr.size _).drew hbt | exact below_after_of (hbr.drew.alloc hbr.drew.size _) hbt)))
  have HBT : Hid (Below w.heap.size w wt) := hbr
  clear hT hbr hbt HC c0 c1 c2 c3
  go_wp2
  go_loopw [7, 8] (fun s i wr => ∃ j : Nat, j ≤ m ∧ i = .int .i64 (j : Int) ∧ s = .int .i64 (clmN key f s0 j) ∧ Hid (Below w.heap.size w wr)) (fun _ i _ => m - (intOf i).toNat)
  case atStart => exact ⟨0, Nat.zero_le _, rfl, rfl, HBT⟩
  case round =>
    obtain ⟨j, hj, rfl, rfl, hB⟩ := hrel
    by_cases hjm : j < m
    · have hji : (j : Int) < (m : Int) := by omega
      have hjl : (j : Int) < (len : Int) := by omega
      obtain ⟨b, off, rfl, hb, hc⟩ := HV.out (by omega)
      have q0 := (hB.out.cell (p := ⟨b, off + j * 2, none⟩) hb).trans (hc j (by omega)).1
      have q1 := (hB.out.cell (p := ⟨b, off + j * 2 + 1, none⟩) hb).trans (hc j (by omega)).2
      obtain ⟨-, -, -, d3⟩ := (HH.out _ hB.out).cells
      have hN := l7Node_any key (pAt f j).1 (pAt f j).2 (clmN key f s0 j) b (off + j * 2) wr hk (HFK.out j (by omega)).1 (HFK.out j (by omega)).2 (HS.out j) (by have := hB.out.size; omega) q0 q1
      have hbts := tagL_bts (tag := 5) (xs := ndL key (pAt f j).1 (pAt f j).2 (clmN key f s0 j)) (by omega) (ndL_ok (HFK.out j (by omega)).1 (HFK.out j (by omega)).2 (HS.out j))
      have hSm := fun v w h => l2Sum_any v (tagL 5 (ndL key (pAt f j).1 (pAt f j).2 (clmN key f s0 j))) w h hbts (by rw [tagL_len, ndL_len]; omega)
      have HNX : Hid (clmN key f s0 (j + 1) = sumL (tagL 5 (ndL key (pAt f j).1 (pAt f j).2 (clmN key f s0 j)))) := rfl
      generalize sumL (tagL 5 (ndL key (pAt f j).1 (pAt f j).2 (clmN key f s0 j))) = q at *
      generalize tagL 5 (ndL key (pAt f j).1 (pAt f j).2 (clmN key f s0 j)) = ys at *
      generalize clmN key f s0 j = sj at *
      clear hc hbts q0 q1 HV
      go_wp2_with fail
      refine hN.mono ?_
      rintro e w3 ⟨a3, c3, rfl, hb3, o3⟩
      have I3 := own_ints o3
      have hB3 := below_after_of hB.out hb3
      clear hN hb3 o3
      go_wp2_with fail
      refine (hSm _ _ I3).mono ?_
      rintro e w4 ⟨rfl, rfl⟩
      clear hSm I3
      go_wp2
      go_roundw
      case rel => exact ⟨j + 1, by omega, by go_num, by rw [HNX.out], hB3⟩
      case measure => simp [intOf]; omega
    · have hjm : j = m := by omega
      subst hjm
      go_wp2
      go_ret
      exact ⟨rfl, hB.out⟩
end U
end Go.Proofs.Ytljbcpkjhnbpeaa

/- The iterator over the forks of a trail, for every body that writes no box of a fork and nothing that was there ahead. -/
namespace Go.Proofs.Ytljbcpkjhnbpeaa
open Go.RowKit Go.Shelf
namespace U
attribute [local go_sem] Oper.semAt_some
/-- What a round keeps: what lies below a place, and every box of a fork. -/
structure KpT (N : Nat) (A B : World) : Prop where
  b : Below N A B
  s : ∀ (k : Nat) (cs : Array Value), A.heap[k]? = some (Obj.cells cs 52) → B.heap[k]? = some (Obj.cells cs 52)
theorem KpT.refl (N : Nat) (A : World) : KpT N A A := ⟨Below.refl _ _, fun _ _ h => h⟩
theorem KpT.trans {N : Nat} {A B C : World} (h : KpT N A B) (k : KpT N B C) : KpT N A C := ⟨h.b.trans k.b, fun i o h1 => k.s i o (h.s i o h1)⟩
theorem KpT.of_below {N : Nat} {A B : World} (hN : N ≤ A.heap.size) (h : Below A.heap.size A B) : KpT N A B := ⟨h.mono hN, fun k _ hk => (h.block k (Array.getElem?_eq_some_iff.1 hk).1).trans hk⟩
theorem KpT.cell {N : Nat} {A B : World} (h : KpT N A B) {b o : Nat} {v : Value} (hlt : b < N) (hc : A.cell? ⟨b, o, none⟩ = some v) : B.cell? ⟨b, o, none⟩ = some v := (h.b.cell (p := ⟨b, o, none⟩) hlt).trans hc
set_option maxRecDepth 100000 in
set_option maxHeartbeats 2000000 in
theorem forksUp_inT {α : Type} (n : Nat) (hn : 1 ≤ n) (l X Bs b off len cap : Nat) (av : Option Addr) (f : Prl) (g : Nat → α) (encs : α → Array Value) (HL : Hid (len = f.length)) (hlen : len ≤ 1000) (hX : 0 < len → b < X) (hav : 0 < len → av = some ⟨b, off, none⟩)
    (HE : Hid (∀ j, j < len → encs (g j) = #[.int .i64 (ahd f j), .agg #[.int .i64 (pAt f j).1, .int .i64 (pAt f j).2]])) (J Jx : List α → World → Prop)
    (hJ : ∀ s A B, J s A → A.grownBy B none → J s B)
    (hY : ∀ pre x W, J pre W → pre.length < len → YieldAt Fence.wide (n - 1) Try.prog l (encs x) W fun e W' =>
      (e = .returned (.bool true) ∧ J (pre ++ [x]) W' ∧ KpT X W W') ∨ (e = .returned (.bool false) ∧ Jx (pre ++ [x]) W'))
    (W : World) (hXW : X ≤ W.heap.size) (hBs : W.heap[Bs]? = some (.cells #[.slice av len cap] 29 (0, 0)))
    (hc : ∀ j, j < len → W.cell? ⟨b, off + j * 2, none⟩ = some (.int .i64 (pAt f j).1) ∧ W.cell? ⟨b, off + j * 2 + 1, none⟩ = some (.int .i64 (pAt f j).2)) (h0 : J [] W) :
    CallsIn Fence.wide n Try.prog 105 #[.func (.yield l) #[] #[], .pointer (some ⟨Bs, 0, none⟩)] W fun e W' => (∃ v, e = .returned v) ∧
      ((∃ ys, ys = upTo g len ∧ J ys W') ∨ (∃ pre, (∃ k, k < len ∧ pre = upTo g (k + 1)) ∧ Jx pre W')) := by
  refine callsIn_of_wp Try.func105 rfl trivial ?_ rfl
  have hB0 := box1_cell hBs
  simp only [Try.ntmps105, List.size_toArray, List.length_cons, List.length_nil, Nat.reduceAdd, Nat.reduceSub, Array.replicate_succ, Array.replicate_zero, List.push_toArray, List.append_toArray, List.nil_append, List.cons_append]
  gi_wp2
  gi_loopw [3, 8] (fun a i wr => ∃ k : Nat, k ≤ len ∧ i = .int .i64 (k : Int) ∧ a = .int .i64 (ahd f k) ∧ Hid (J (upTo g k) wr) ∧ Hid (KpT X W wr))
    (fun _ i _ => len - (intOf i).toNat)
  case atStart => exact ⟨0, Nat.zero_le _, rfl, rfl, h0, KpT.refl _ _⟩
  case round =>
    obtain ⟨k, hk, rfl, rfl, hJs, hnx⟩ := hrel
    by_cases hkn : k < len
    · have hki : (k : Int) < (len : Int) := by omega
      have hae := hav (by omega)
      subst hae
      have hcx := hc k hkn
      have d0 := hnx.out.cell (hX (by omega)) hcx.1
      have d1 := hnx.out.cell (hX (by omega)) hcx.2
      have hs : Hid (upTo g (k + 1) = upTo g k ++ [g k]) := upTo_succ g k
      have hx := HE.out k hkn
      have hah : Hid (ahd f (k + 1) = (pAt f k).1) := ahd_succ f k
      obtain ⟨W2, hW2⟩ : ∃ W2, W2 = wr.alloc (.cells #[.int .i64 (pAt f k).1, .int .i64 (pAt f k).2] 52) := ⟨_, rfl⟩
      have hJ2 : J (upTo g k) W2 := by rw [hW2]; exact hJ _ _ _ hJs.out (World.grownBy_alloc wr _ none)
      obtain ⟨fn, tmps, assign, body, hy, hR⟩ := hY _ (g k) W2 hJ2 (by rw [upTo_len]; exact hkn)
      rw [hx] at hy
      have hbx : W2.heap[wr.heap.size]? = some (.cells #[.int .i64 (pAt f k).1, .int .i64 (pAt f k).2] 52) := by rw [hW2]; exact heap_alloc_new wr _
      have hz : Hid (X ≤ wr.heap.size) := Nat.le_trans hXW hnx.out.b.size
      have hk2 : Hid (KpT X W W2) := (hnx.out.trans (by rw [hW2]; exact KpT.of_below hz.out (one_new _)) : KpT X W W2)
      rw [hW2] at hy
      have HW2 : Hid (W2 = wr.alloc (.cells #[.int .i64 (pAt f k).1, .int .i64 (pAt f k).2] 52)) := hW2
      generalize (pAt f k).1 = fb at *
      generalize (pAt f k).2 = fo at *
      generalize ahd f k = fa at *
      clear hc hcx hJs HE hW2
      gi_wp2
      rw [← HW2.out]
      refine hR.mono ?_
      rintro e W3 (⟨rfl, hJ3, hk3⟩ | ⟨rfl, hJx3⟩)
      · obtain ⟨e0, -⟩ := two_cellsV (hk3.s _ _ hbx)
        gi_wp2
        go_roundw
        case rel => exact ⟨k + 1, by omega, by go_num, by rw [hah.out], by rw [hs.out]; exact hJ3, hk2.out.trans hk3⟩
        case measure => simp [intOf]; omega
      · gi_wp2
        refine bodyPost_ret (results_none rfl _ _ _) rfl ?_
        exact ⟨⟨_, rfl⟩, .inr ⟨_, ⟨k, hkn, hs.out.symm⟩, hJx3⟩⟩
    · have hkn : k = len := by omega
      subst hkn
      clear hc
      gi_wp2
      go_end0
      exact ⟨⟨_, rfl⟩, .inl ⟨_, rfl, hJs.out⟩⟩
theorem forksUp_stopsT {α : Type} {w : World} (n : Nat) (hn : 1 ≤ n) (X Bs b off len cap : Nat) (av : Option Addr) (f : Prl) (g : Nat → α) (encs : α → Array Value) (HL : Hid (len = f.length)) (hlen : len ≤ 1000) (hX : 0 < len → b < X) (hav : 0 < len → av = some ⟨b, off, none⟩ ∧ b < w.heap.size)
    (HE : Hid (∀ j, j < len → encs (g j) = #[.int .i64 (ahd f j), .agg #[.int .i64 (pAt f j).1, .int .i64 (pAt f j).2]])) (hXW : X ≤ w.heap.size) (hBs : w.heap[Bs]? = some (.cells #[.slice av len cap] 29 (0, 0)))
    (hc : ∀ j, j < len → w.cell? ⟨b, off + j * 2, none⟩ = some (.int .i64 (pAt f j).1) ∧ w.cell? ⟨b, off + j * 2 + 1, none⟩ = some (.int .i64 (pAt f j).2)) :
    SeqStopsK Fence.wide n Try.prog 105 #[.pointer (some ⟨Bs, 0, none⟩)] encs (KpT X) (fun ys => ys = upTo g len) (fun pre => ∃ k, k < len ∧ pre = upTo g (k + 1)) len w :=
  fun l J Jx W hW hJ _ hY h0 => forksUp_inT n hn l X Bs b off len cap av f g encs HL hlen hX (fun h => (hav h).1) HE J Jx (fun s A B h hg => hJ s A B none h hg (fun r e => by cases e)) hY W (Nat.le_trans hXW hW.size) ((hW.block Bs (Array.getElem?_eq_some_iff.1 hBs).1).trans hBs)
    (fun j hj => ⟨(hW.cell (p := ⟨b, off + j * 2, none⟩) (hav (by omega)).2).trans (hc j hj).1, (hW.cell (p := ⟨b, off + j * 2 + 1, none⟩) (hav (by omega)).2).trans (hc j hj).2⟩) h0
end U
end Go.Proofs.Ytljbcpkjhnbpeaa

/- The fault and the size of a trail, as the program and as the model tell them. -/
namespace Go.Proofs.Ytljbcpkjhnbpeaa
open Go.RowKit
namespace U
set_option maxRecDepth 100000 in
set_option maxHeartbeats 2000000 in
theorem implTrailFault_any (x : Bool) (k y : Int) (sv : Value) (f : Prl) (w : World) (hv : Prs w sv f) :
    Calls Try.prog 20 #[.agg #[.bool x, .int .i64 k, .int .i64 y, sv]] w fun e w' => e = .returned (.int .i64 (tlF x k y f)) ∧ Below w.heap.size w w' := by
  have hW := tlF_ways x k y f
  generalize tlF x k y f = q at *
  have hS := fun w => isSlot_any (k, y) w
  dsimp only at hS
  have HV : Hid (Prs w sv f) := hv
  obtain ⟨a, c, rfl⟩ := hv.shape
  obtain ⟨W, hWW⟩ : ∃ W, W = w.alloc (.cells #[.bool x, .int .i64 k, .int .i64 y, .slice a f.length c] 31) := ⟨_, rfl⟩
  have HW : Hid (w.alloc (.cells #[.bool x, .int .i64 k, .int .i64 y, .slice a f.length c] 31) = W) := hWW.symm
  have H : TlBlk W w.heap.size x k y (.slice a f.length c) := by rw [hWW]; exact tl_box w x k y _
  have hB : Below w.heap.size w W := by rw [hWW]; exact one_new _
  have HH : Hid (TlBlk W w.heap.size x k y (.slice a f.length c)) := H
  obtain ⟨c0, c1, c2, c3⟩ := H.cells
  have hp := H.lt
  clear H hv hWW
  rcases hW with (⟨rfl, rfl, hh⟩ | ⟨rfl, hf, rfl | ⟨rfl, rfl, _⟩⟩ | ⟨rfl, hf, hn, rfl⟩) | ⟨rfl, hf, hn, hx⟩
  · generalize f.length = n at *
    clear hS HV
    by_cases hk : k = 0
    · subst hk
      by_cases hy : y = 0
      · subst hy
        have hn : 0 < n := by rcases hh with h | h; exact absurd rfl h; exact h
        have hni : (0 : Int) < (n : Int) := by omega
        clear hh hn
        go_enter Try.func20, Try.ntmps20
        go_wp2
        go_ret
        exact ⟨rfl, one_new _⟩
      · have hy1 : (y == 0) = false := by simpa using hy
        have hy2 : (y != 0) = true := by simpa using hy
        clear hh
        go_enter Try.func20, Try.ntmps20
        go_wp2
        go_ret
        exact ⟨rfl, one_new _⟩
    · have hk1 : (k == 0) = false := by simpa using hk
      have hk2 : (k != 0) = true := by simpa using hk
      clear hh
      go_enter Try.func20, Try.ntmps20
      go_wp2
      go_ret
      exact ⟨rfl, one_new _⟩
  · rw [hf] at hS
    generalize f.length = n at *
    clear HV
    go_enter Try.func20, Try.ntmps20
    go_wp2_with fail
    refine (hS _).mono ?_
    rintro e w1 ⟨rfl, hb1⟩
    have hB1 := below_after hb1
    clear hS hb1
    go_wp2
    go_ret
    exact ⟨rfl, hB1⟩
  · exact absurd hf (by decide)
  · rw [hf] at hS
    have hn8 : (8 : Int) < (f.length : Int) := by omega
    generalize f.length = n at *
    clear HV
    go_enter Try.func20, Try.ntmps20
    go_wp2_with fail
    rw [HW.out]
    refine (hS _).mono ?_
    rintro e w1 ⟨rfl, hb1⟩
    have hB1 := below_after_of hB hb1
    have d3 := (hb1.cell (p := ⟨w.heap.size, 3, none⟩) hp).trans c3
    clear hS hb1
    go_wp2
    go_ret
    exact ⟨rfl, hB1⟩
  · rw [hf] at hS
    have hFF := fun w' h => forksFault_any (.slice a f.length c) f w' (HV.out.below (w' := w') h) (by omega)
    have hn8 : ¬ (8 : Int) < (f.length : Int) := by omega
    have hpc : x = true ∨ (x = false ∧ k = 0 ∧ y = 0 ∧ f.length = 0) := hx
    generalize fkF f = q at *
    generalize f.length = n at *
    clear HV hx
    rcases hpc with rfl | ⟨rfl, rfl, rfl, rfl⟩
    · go_enter Try.func20, Try.ntmps20
      go_wp2_with fail
      rw [HW.out]
      refine (hS _).mono ?_
      rintro e w1 ⟨rfl, hb1⟩
      have hB1 := below_after_of hB hb1
      have d3 := (hb1.cell (p := ⟨w.heap.size, 3, none⟩) hp).trans c3
      clear hS hb1
      go_wp2_with fail
      refine (hFF _ hB1).mono ?_
      rintro e w2 ⟨rfl, hb2⟩
      have hB2 := below_after_of hB1 hb2
      clear hFF hb2
      go_wp2
      go_ret
      exact ⟨rfl, hB2⟩
    · go_enter Try.func20, Try.ntmps20
      go_wp2_with fail
      rw [HW.out]
      refine (hS _).mono ?_
      rintro e w1 ⟨rfl, hb1⟩
      have hB1 := below_after_of hB hb1
      have d3 := (hb1.cell (p := ⟨w.heap.size, 3, none⟩) hp).trans c3
      clear hS hb1
      go_wp2_with fail
      refine (hFF _ hB1).mono ?_
      rintro e w2 ⟨rfl, hb2⟩
      have hB2 := below_after_of hB1 hb2
      clear hFF hb2
      go_wp2
      go_ret
      exact ⟨rfl, hB2⟩
/-- The size of a trail. -/
def tzV (x : Bool) (k y : Int) (f : Prl) : Int := if tlF x k y f = 0 then (if x then 5 + 3 * (f.length : Int) else 1) else 0
theorem tzV_no {x : Bool} {k y : Int} {f : Prl} (h : tlF x k y f ≠ 0) : tzV x k y f = 0 := if_neg h
theorem tzV_true {k y : Int} {f : Prl} (h : tlF true k y f = 0) : tzV true k y f = 5 + 3 * (f.length : Int) := if_pos h
theorem tzV_false {k y : Int} {f : Prl} (h : tlF false k y f = 0) : tzV false k y f = 1 := if_pos h
set_option maxRecDepth 100000 in
set_option maxHeartbeats 2000000 in
theorem implTrailSize_any (x : Bool) (k y : Int) (sv : Value) (f : Prl) (w : World) (hv : Prs w sv f) :
    Calls Try.prog 23 #[.agg #[.bool x, .int .i64 k, .int .i64 y, sv]] w fun e w' => IntAns w (tlF x k y f) (tzV x k y f) e w' := by
  obtain ⟨W, hWW⟩ : ∃ W, W = (w.alloc (.cells #[.bool x, .int .i64 k, .int .i64 y, sv] 31)).alloc (.cells #[.int .i64 0, .int .i64 0] 38) := ⟨_, rfl⟩
  have HW : Hid ((w.alloc (.cells #[.bool x, .int .i64 k, .int .i64 y, sv] 31)).alloc (.cells #[.int .i64 0, .int .i64 0] 38) = W) := hWW.symm
  have H : TlBlk W w.heap.size x k y sv := by rw [hWW]; exact (tl_box w x k y _).below (one_new _)
  have hB : Below w.heap.size w W := by rw [hWW]; exact two_new _ _
  have HR : W.heap[w.heap.size + 1]? = some (.cells #[.int .i64 0, .int .i64 0] 38) := by
    have h := heap_alloc_new (w.alloc (.cells #[.bool x, .int .i64 k, .int .i64 y, sv] 31)) (.cells #[.int .i64 0, .int .i64 0] 38)
    rw [World.size_alloc] at h
    rw [hWW]
    exact h
  have hr := (Array.getElem?_eq_some_iff.1 HR).1
  have hF := implTrailFault_any x k y sv f W (hv.below hB)
  have HC : Hid (∀ w', Below W.heap.size W w' → TlBlk w' w.heap.size x k y sv) := fun w' h => H.below h
  have hL : Hid (f.length ≤ 8 ∨ tlF x k y f ≠ 0) := (by
    by_cases h : tlF x k y f = 0
    · exact Or.inl (tlF_ok h).len
    · exact Or.inr h : f.length ≤ 8 ∨ tlF x k y f ≠ 0)
  obtain ⟨a, c, rfl⟩ := hv.shape
  obtain ⟨d0, d1, d2, d3⟩ := H.cells
  have hT1 : x = true → tlF x k y f = 0 → tzV x k y f = 5 + 3 * (f.length : Int) := fun e h => by subst e; exact tzV_true h
  have hT2 : x = false → tlF x k y f = 0 → tzV x k y f = 1 := fun e h => by subst e; exact tzV_false h
  have hT3 : tlF x k y f ≠ 0 → tzV x k y f = 0 := fun h => tzV_no h
  generalize tlF x k y f = q at *
  generalize tzV x k y f = r at *
  generalize f.length = n at *
  clear hWW H hv
  by_cases hq : q = 0
  · subst hq
    have hn : n ≤ 8 := by rcases hL.out with h | h; exact h; exact absurd rfl h
    have hw1 : wrap64 (3 * (n : Int)) = 3 * (n : Int) := by simp only [wrap64]; omega
    have hw2 : wrap64 (5 + 3 * (n : Int)) = 5 + 3 * (n : Int) := by simp only [wrap64]; omega
    clear hL hT3
    cases x
    · have hr1 := hT2 rfl rfl
      subst hr1
      clear hT1 hT2
      go_enter Try.func23, Try.ntmps23
      go_wp2_with fail
      rw [HW.out]
      refine (hF).mono ?_
      rintro e w1 ⟨rfl, hb1⟩
      have hB1 := below_after_of hB hb1
      obtain ⟨e0, e1, e2, e3⟩ := (HC.out _ hb1).cells
      obtain ⟨g0, g1, f0, f1⟩ := two_cellsV ((hb1.block (w.heap.size + 1) hr).trans HR)
      clear hF hb1
      go_wp2
      exact bodyPost_ret (v := .agg #[.int .i64 0, .int .i64 1]) (by simp [results, Try.results23, go_sem, *]) rfl ⟨rfl, (hB1.setCell (Nat.le_succ _) _).setCell (Nat.le_succ _) _⟩
    · have hr1 := hT1 rfl rfl
      clear hT1 hT2
      subst hr1
      go_enter Try.func23, Try.ntmps23
      go_wp2_with fail
      rw [HW.out]
      refine (hF).mono ?_
      rintro e w1 ⟨rfl, hb1⟩
      have hB1 := below_after_of hB hb1
      obtain ⟨e0, e1, e2, e3⟩ := (HC.out _ hb1).cells
      obtain ⟨g0, g1, f0, f1⟩ := two_cellsV ((hb1.block (w.heap.size + 1) hr).trans HR)
      clear hF hb1
      go_wp2
      exact bodyPost_ret (v := .agg #[.int .i64 0, .int .i64 (5 + 3 * (n : Int))]) (by simp [results, Try.results23, go_sem, *]) rfl ⟨rfl, (hB1.setCell (Nat.le_succ _) _).setCell (Nat.le_succ _) _⟩
  · have hr1 := hT3 hq
    subst hr1
    have hq1 : (q != 0) = true := by simpa using hq
    clear hT1 hT2 hT3 hL hq
    go_enter Try.func23, Try.ntmps23
    go_wp2_with fail
    rw [HW.out]
    refine (hF).mono ?_
    rintro e w1 ⟨rfl, hb1⟩
    have hB1 := below_after_of hB hb1
    obtain ⟨g0, g1, f0, f1⟩ := two_cellsV ((hb1.block (w.heap.size + 1) hr).trans HR)
    clear hF hb1
    go_wp2
    exact bodyPost_ret (v := .agg #[.int .i64 q, .int .i64 0]) (by simp [results, Try.results23, go_sem, *]) rfl ⟨rfl, (hB1.setCell (Nat.le_succ _) _).setCell (Nat.le_succ _) _⟩
set_option maxRecDepth 100000 in
set_option maxHeartbeats 2000000 in
theorem specTrailSize_any (x : Bool) (k y : Int) (sv : Value) (f : Prl) (w : World) (hv : Prs w sv f) :
    Calls Try.prog 25 #[.agg #[.bool x, .int .i64 k, .int .i64 y, sv]] w fun e w' => IntAns w (tlF x k y f) (tzV x k y f) e w' := by
  obtain ⟨W, hWW⟩ : ∃ W, W = (w.alloc (.cells #[.bool x, .int .i64 k, .int .i64 y, sv] 31)).alloc (.cells #[.int .i64 0, .int .i64 0] 38) := ⟨_, rfl⟩
  have HW : Hid ((w.alloc (.cells #[.bool x, .int .i64 k, .int .i64 y, sv] 31)).alloc (.cells #[.int .i64 0, .int .i64 0] 38) = W) := hWW.symm
  have H : TlBlk W w.heap.size x k y sv := by rw [hWW]; exact (tl_box w x k y _).below (one_new _)
  have hB : Below w.heap.size w W := by rw [hWW]; exact two_new _ _
  have HR : W.heap[w.heap.size + 1]? = some (.cells #[.int .i64 0, .int .i64 0] 38) := by
    have h := heap_alloc_new (w.alloc (.cells #[.bool x, .int .i64 k, .int .i64 y, sv] 31)) (.cells #[.int .i64 0, .int .i64 0] 38)
    rw [World.size_alloc] at h
    rw [hWW]
    exact h
  have hr := (Array.getElem?_eq_some_iff.1 HR).1
  have hF := l7Fault_any w.heap.size x k y sv f W H (hv.below hB)
  have HC : Hid (∀ w', Below W.heap.size W w' → TlBlk w' w.heap.size x k y sv) := fun w' h => H.below h
  have hL : Hid (f.length ≤ 8 ∨ tlF x k y f ≠ 0) := (by
    by_cases h : tlF x k y f = 0
    · exact Or.inl (tlF_ok h).len
    · exact Or.inr h : f.length ≤ 8 ∨ tlF x k y f ≠ 0)
  obtain ⟨a, c, rfl⟩ := hv.shape
  obtain ⟨d0, d1, d2, d3⟩ := H.cells
  have hT1 : x = true → tlF x k y f = 0 → tzV x k y f = 5 + 3 * (f.length : Int) := fun e h => by subst e; exact tzV_true h
  have hT2 : x = false → tlF x k y f = 0 → tzV x k y f = 1 := fun e h => by subst e; exact tzV_false h
  have hT3 : tlF x k y f ≠ 0 → tzV x k y f = 0 := fun h => tzV_no h
  generalize tlF x k y f = q at *
  generalize tzV x k y f = r at *
  generalize f.length = n at *
  clear hWW H hv
  by_cases hq : q = 0
  · subst hq
    have hn : n ≤ 8 := by rcases hL.out with h | h; exact h; exact absurd rfl h
    have hw1 : wrap64 (3 * (n : Int)) = 3 * (n : Int) := by simp only [wrap64]; omega
    have hw2 : wrap64 (5 + 3 * (n : Int)) = 5 + 3 * (n : Int) := by simp only [wrap64]; omega
    clear hL hT3
    cases x
    · have hr1 := hT2 rfl rfl
      subst hr1
      clear hT1 hT2
      go_enter Try.func25, Try.ntmps25
      go_wp2_with fail
      rw [HW.out]
      refine (hF).mono ?_
      rintro e w1 ⟨rfl, hb1⟩
      have hB1 := below_after_of hB hb1
      obtain ⟨e0, e1, e2, e3⟩ := (HC.out _ hb1).cells
      obtain ⟨g0, g1, f0, f1⟩ := two_cellsV ((hb1.block (w.heap.size + 1) hr).trans HR)
      clear hF hb1
      go_wp2
      exact bodyPost_ret (v := .agg #[.int .i64 0, .int .i64 1]) (by simp [results, Try.results25, go_sem, *]) rfl ⟨rfl, (hB1.setCell (Nat.le_succ _) _).setCell (Nat.le_succ _) _⟩
    · have hr1 := hT1 rfl rfl
      clear hT1 hT2
      subst hr1
      go_enter Try.func25, Try.ntmps25
      go_wp2_with fail
      rw [HW.out]
      refine (hF).mono ?_
      rintro e w1 ⟨rfl, hb1⟩
      have hB1 := below_after_of hB hb1
      obtain ⟨e0, e1, e2, e3⟩ := (HC.out _ hb1).cells
      obtain ⟨g0, g1, f0, f1⟩ := two_cellsV ((hb1.block (w.heap.size + 1) hr).trans HR)
      clear hF hb1
      go_wp2
      exact bodyPost_ret (v := .agg #[.int .i64 0, .int .i64 (5 + 3 * (n : Int))]) (by simp [results, Try.results25, go_sem, *]) rfl ⟨rfl, (hB1.setCell (Nat.le_succ _) _).setCell (Nat.le_succ _) _⟩
  · have hr1 := hT3 hq
    subst hr1
    have hq1 : (q != 0) = true := by simpa using hq
    clear hT1 hT2 hT3 hL hq
    go_enter Try.func25, Try.ntmps25
    go_wp2_with fail
    rw [HW.out]
    refine (hF).mono ?_
    rintro e w1 ⟨rfl, hb1⟩
    have hB1 := below_after_of hB hb1
    obtain ⟨g0, g1, f0, f1⟩ := two_cellsV ((hb1.block (w.heap.size + 1) hr).trans HR)
    clear hF hb1
    go_wp2
    exact bodyPost_ret (v := .agg #[.int .i64 q, .int .i64 0]) (by simp [results, Try.results25, go_sem, *]) rfl ⟨rfl, (hB1.setCell (Nat.le_succ _) _).setCell (Nat.le_succ _) _⟩
end U
end Go.Proofs.Ytljbcpkjhnbpeaa

/- What is summed along a trail, from the leaf up, as the program tells it. -/
namespace Go.Proofs.Ytljbcpkjhnbpeaa
open Go.RowKit Go.Shelf
namespace U
attribute [local go_sem] Oper.semAt_some
theorem Try.infoBs : (Try.prog.info? 22).map (fun i => (i.zero, i.size, i.bytes)) = some (some (.slice none 0 0), 1, 24) := by kernel_rfl
/-- A fork in range. -/
abbrev Fp := { p : Int × Int // fkB p = true }
def gP (f : Prl) (j : Nat) : Int × Fp := (ahd f j, if h : fkB (pAt f j) = true then ⟨pAt f j, h⟩ else ⟨(0, 0), rfl⟩)
theorem gP_at {f : Prl} {m j : Nat} (h : fkS f m = 0) (hj : j < m) : (gP f j).1 = ahd f j ∧ (gP f j).2.1 = pAt f j := by
  have h1 := (fkS_at h hj).1
  refine ⟨rfl, ?_⟩
  unfold gP
  rw [dif_pos h1]
/-- The pieces so far, and the last one. -/
def pzs (key : Int) (lf : List Int) (pre : List (Int × Fp)) : List (List Int) × List Int :=
  pre.foldl (fun st x => (st.1 ++ [tagL 5 (ndL key x.2.1.1 x.2.1.2 (sumL st.2))], tagL 5 (ndL key x.2.1.1 x.2.1.2 (sumL st.2)))) ([lf], lf)
theorem pzs_snoc (key : Int) (lf : List Int) (pre : List (Int × Fp)) (x : Int × Fp) : pzs key lf (pre ++ [x]) = ((pzs key lf pre).1 ++ [tagL 5 (ndL key x.2.1.1 x.2.1.2 (sumL (pzs key lf pre).2))], tagL 5 (ndL key x.2.1.1 x.2.1.2 (sumL (pzs key lf pre).2))) := by unfold pzs; rw [List.foldl_append]; rfl
/-- The piece at a place of a trail. -/
def pcL (key : Int) (f : Prl) (lf : List Int) : Nat → List Int
  | 0 => lf
  | j + 1 => tagL 5 (ndL key (pAt f j).1 (pAt f j).2 (clmN key f (sumL lf) j))
theorem pcL_sum (key : Int) (f : Prl) (lf : List Int) : ∀ j, sumL (pcL key f lf j) = clmN key f (sumL lf) j
  | 0 => rfl
  | _ + 1 => rfl
theorem pzs_up {key : Int} {lf : List Int} {f : Prl} {m : Nat} (h : fkS f m = 0) : ∀ j, j ≤ m → pzs key lf (upTo (gP f) j) = ((List.range (j + 1)).map (pcL key f lf), pcL key f lf j)
  | 0, _ => rfl
  | j + 1, hj => by
    rw [upTo_succ, pzs_snoc, pzs_up h j (by omega), (gP_at h hj).2, pcL_sum]
    refine Prod.ext ?_ rfl
    rw [List.range_succ (n := j + 1), List.map_append]
    rfl
theorem pzs_len (key : Int) (lf : List Int) (pre : List (Int × Fp)) : (pzs key lf pre).1.length = pre.length + 1 := by
  have h : ∀ (pre : List (Int × Fp)) (st : List (List Int) × List Int), (pre.foldl (fun st x => (st.1 ++ [tagL 5 (ndL key x.2.1.1 x.2.1.2 (sumL st.2))], tagL 5 (ndL key x.2.1.1 x.2.1.2 (sumL st.2)))) st).1.length = st.1.length + pre.length := by
    intro pre
    induction pre with
    | nil => intro st; rfl
    | cons x pre ih =>
      intro st
      rw [List.foldl_cons, ih]
      simp only [List.length_append, List.length_cons, List.length_nil]
      omega
  unfold pzs
  rw [h]
  simp only [List.length_cons, List.length_nil]
  omega
theorem pzs_ok {key : Int} {lf : List Int} (hb : Bts lf) (hn : lf.length ≤ 16) (pre : List (Int × Fp)) : Bts (pzs key lf pre).2 ∧ (pzs key lf pre).2.length ≤ 16 := by
  rcases List.eq_nil_or_concat pre with rfl | ⟨q, x, rfl⟩
  · exact ⟨hb, hn⟩
  · rw [List.concat_eq_append, pzs_snoc]
    have hx := fkB_bd x.2.2
    exact ⟨tagL_bts (by omega) (ndL_ok hx.1 hx.2 (sumL_bd _)), by rw [tagL_len, ndL_len]; omega⟩
/-- Pieces as they lie in memory. -/
structure PcRows (W : World) (B : Nat) (us : List Value) (ps : List (List Int)) : Prop where
  n : us.length = ps.length
  r : ∀ (j : Nat) (u : Value) (ys : List Int), us[j]? = some u → ps[j]? = some ys → W.ownsRow B 5 1 u ys.length (ys.map (Value.int .u8))
theorem PcRows.below {W W' : World} {B : Nat} {us : List Value} {ps : List (List Int)} (h : PcRows W B us ps) (hb : Below W.heap.size W W') : PcRows W' B us ps := ⟨h.n, fun j u ys h1 h2 => own_below (h.r j u ys h1 h2) hb⟩
theorem PcRows.mono {W : World} {B B' : Nat} {us : List Value} {ps : List (List Int)} (h : PcRows W B' us ps) (hB : B ≤ B') : PcRows W B us ps := ⟨h.n, fun j u ys h1 h2 => own_mono (h.r j u ys h1 h2) hB⟩
theorem own_type {w : World} {B n size : Nat} {e : TypeId} {v : Value} {xs : List Value} {g : Nat} (h : w.ownsRow B e size v n xs) (hg : v.ownBlock = some g) : ∃ cur, w.heap[g]? = some (.cells cur e) := by
  rcases h.2 with ⟨rfl, _⟩ | ⟨g', cap, cur, rfl, _, h4, _⟩
  · simp [Value.ownBlock] at hg
  · have : g' = g := by simpa [Value.ownBlock] using hg
    subst this
    exact ⟨cur, h4⟩
/-- A row stands where a block of another type, or none that has cells, has turned. -/
theorem own_aside {w w' : World} {B n size : Nat} {e : TypeId} {v : Value} {xs : List Value} {row : Option Nat} (h : w.ownsRow B e size v n xs) (hg : w.grownBy w' row) (hr : ∀ (b : Nat) (cur : Array Value), row = some b → w.heap[b]? ≠ some (.cells cur e)) : w'.ownsRow B e size v n xs := by
  refine own_grown h hg ?_
  rcases hk : v.ownBlock with _ | g
  · exact Or.inl rfl
  · right
    intro e'
    obtain ⟨cur, hc⟩ := own_type h hk
    exact hr g cur e'.symm hc
theorem PcRows.aside {W W' : World} {B : Nat} {us : List Value} {ps : List (List Int)} {row : Option Nat} (h : PcRows W B us ps) (hg : W.grownBy W' row) (hr : ∀ (b : Nat) (cur : Array Value), row = some b → W.heap[b]? ≠ some (.cells cur 5)) : PcRows W' B us ps := ⟨h.n, fun j u ys h1 h2 => own_aside (h.r j u ys h1 h2) hg hr⟩
theorem not_type {W : World} {b : Nat} {cs cur : Array Value} {t e : TypeId} (h : W.heap[b]? = some (.cells cs t)) (ht : t ≠ e) : W.heap[b]? ≠ some (.cells cur e) := by
  rw [h]
  simp
  exact fun _ => ht
theorem not_cells {W : World} {row : Option Nat} {B : Nat} (hr : ∀ r, row = some r → B ≤ r ∧ ∃ o : Obj, W.heap[r]? = some o ∧ o.isCells = false) {e : TypeId} : ∀ (b : Nat) (cur : Array Value), row = some b → W.heap[b]? ≠ some (.cells cur e) := by
  intro b cur hb h
  obtain ⟨-, o, ho, hn⟩ := hr b hb
  rw [h] at ho
  cases ho
  simp [Obj.isCells] at hn
theorem own_one (w : World) (B : Nat) (e : TypeId) (u : Value) (hb : B ≤ w.heap.size) : (w.alloc (.cells #[u] e)).ownsRow B e 1 (.slice (some ⟨w.heap.size, 0, none⟩) 1 1) 1 [u] :=
  ⟨by simp, .inr ⟨w.heap.size, 1, #[u], rfl, hb, heap_alloc_new w _, Nat.le_refl _, by unfold maxLen; omega, rfl, by simp⟩⟩
theorem PcRows.snoc {W : World} {B : Nat} {us : List Value} {ps : List (List Int)} {u : Value} {ys : List Int} (h : PcRows W B us ps) (hu : W.ownsRow B 5 1 u ys.length (ys.map (Value.int .u8))) : PcRows W B (us ++ [u]) (ps ++ [ys]) := by
  refine ⟨by simp [h.n], fun j v zs h1 h2 => ?_⟩
  by_cases hj : j < us.length
  · rw [List.getElem?_append_left hj] at h1
    rw [List.getElem?_append_left (by rw [← h.n]; exact hj)] at h2
    exact h.r j v zs h1 h2
  · have hl := (List.getElem?_eq_some_iff.1 h1).1
    have ej : j = us.length := by simp at hl; omega
    subst ej
    rw [List.getElem?_append_right (Nat.le_refl _)] at h1
    rw [h.n, List.getElem?_append_right (Nat.le_refl _)] at h2
    simp at h1 h2
    subst h1 h2
    exact hu
theorem PcRows.one {W : World} {B : Nat} {u : Value} {ys : List Int} (hu : W.ownsRow B 5 1 u ys.length (ys.map (Value.int .u8))) : PcRows W B [u] [ys] := by
  have h := PcRows.snoc (W := W) (B := B) (us := []) (ps := []) ⟨rfl, fun j u ys h => by simp at h⟩ hu
  exact h
/-- What is answered: pieces that are new. -/
structure PcsAns (w : World) (ps : List (List Int)) (e : Ending) (w' : World) : Prop where
  b : Below w.heap.size w w'
  r : ∃ g c us, e = .returned (.slice (some ⟨g, 0, none⟩) ps.length c) ∧ w'.ownsRow w.heap.size 22 1 (.slice (some ⟨g, 0, none⟩) ps.length c) ps.length us ∧ PcRows w' w.heap.size us ps
/-- What holds between two rounds: the last piece, the pieces so far. -/
structure PI (B M N : Nat) (w : World) (key : Int) (lf : List Int) (pre : List (Int × Fp)) (W : World) : Prop where
  x : ∃ a c g cp us, W.heap[B]? = some (.cells #[.slice a (pzs key lf pre).2.length c] 22) ∧ W.heap[B + 1 + 1]? = some (.cells #[.slice (some ⟨g, 0, none⟩) (pre.length + 1) cp] 95) ∧ W.ownsRow (B + 1) 22 1 (.slice (some ⟨g, 0, none⟩) (pre.length + 1) cp) (pre.length + 1) us ∧ W.ownsRow M 5 1 (.slice a (pzs key lf pre).2.length c) (pzs key lf pre).2.length ((pzs key lf pre).2.map (Value.int .u8)) ∧ PcRows W M us (pzs key lf pre).1
  b : Below B w W
  z : N ≤ W.heap.size
theorem PI.own {B M N : Nat} {w : World} {key : Int} {lf : List Int} (hN : B + 1 + 1 < N) (hw : w.heap.size = B) : OwnFrom N (PI B M N w key lf) := by
  rintro pre X Y row ⟨⟨a, c, g, cp, us, h1, h2, h3, h4, h5⟩, hb, hz⟩ hg hr
  have hne : ∀ (b : Nat) (cs : Array Value) (t : TypeId), X.heap[b]? = some (.cells cs t) → some b ≠ row := fun b cs t h e => not_cells hr b cs e.symm h
  exact ⟨⟨a, c, g, cp, us, grown_blk hg h1 (hne _ _ _ h1), grown_blk hg h2 (hne _ _ _ h2), own_aside h3 hg (not_cells hr), own_aside h4 hg (not_cells hr), h5.aside hg (not_cells hr)⟩, hb.grown hg (by rw [← hw]; exact hb.size) (fun k hk => by have := (hr k hk).1; omega), Nat.le_trans hz hg.size⟩
end U
end Go.Proofs.Ytljbcpkjhnbpeaa

/- The pieces of a trail that has a leaf, as the program tells them. -/
namespace Go.Proofs.Ytljbcpkjhnbpeaa
open Go.RowKit Go.Shelf
namespace U
attribute [local go_sem] Oper.semAt_some
set_option maxRecDepth 100000 in
set_option maxHeartbeats 4000000 in
theorem trailPieces_some (key k y : Int) (sv : Value) (f : Prl) (w : World) (hv : Prs w sv f) (hk : inB key 0 255 = true) (h0 : tlF true k y f = 0) :
    Calls Try.prog 47 #[.int .i64 key, .agg #[.bool true, .int .i64 k, .int .i64 y, sv]] w fun e w' => PcsAns w ((List.range (f.length + 1)).map (pcL key f (tagL 4 [k, y]))) e w' := by
  have hok := tlF_ok h0
  have hU := fun w' h => forksUp_any sv f w' (hv.below (w' := w') h)
  have hlf : (Tr.leaf k y).Ok := fine_bd hok.leaf
  have hPc := (piece_leaf hlf).c
  simp only [pcF_leaf, pcV_leaf] at hPc
  have hlb : Bts (Tr.leaf k y).bts := hlf.bts
  have hll : (Tr.leaf k y).bts.length ≤ 16 := by rw [Tr.bts_leaf, tagL_len]; simp
  rw [show tagL 4 [k, y] = (Tr.leaf k y).bts from (Tr.bts_leaf k y).symm]
  obtain ⟨ad, c, rfl⟩ := hv.shape
  obtain ⟨len, hlp⟩ : ∃ len, len = f.length := ⟨_, rfl⟩
  have HLP : Hid (len = f.length) := hlp
  have HFK : Hid (fkS f len = 0) := (by rw [hlp]; exact hok.fk : fkS f len = 0)
  have hn : len ≤ 8 := by rw [hlp]; exact hok.len
  rw [← hlp] at hU hv ⊢
  generalize (Tr.leaf k y).bts = lf at *
  obtain ⟨W, hW⟩ : ∃ W, W = (w.alloc (.cells #[.int .i64 key] 2)).alloc (.cells #[.bool true, .int .i64 k, .int .i64 y, .slice ad len c] 31) := ⟨_, rfl⟩
  have HW : Hid ((w.alloc (.cells #[.int .i64 key] 2)).alloc (.cells #[.bool true, .int .i64 k, .int .i64 y, .slice ad len c] 31) = W) := hW.symm
  have hB : Below w.heap.size w W := by rw [hW]; exact two_new _ _
  have HLL : Hid (W.heap[w.heap.size]? = some (.cells #[.int .i64 key] 2) ∧ W.heap[w.heap.size + 1]? = some (.cells #[.bool true, .int .i64 k, .int .i64 y, .slice ad len c] 31)) := (by
    rw [hW]
    have h1 := heap_alloc_new (w.alloc (.cells #[.int .i64 key] 2)) (.cells #[.bool true, .int .i64 k, .int .i64 y, .slice ad len c] 31)
    simp only [World.size_alloc] at h1
    exact ⟨((one_new _).block w.heap.size (by simp)).trans (heap_alloc_new w _), h1⟩ : _ ∧ _)
  have hz0 : Hid (W.heap.size = w.heap.size + 1 + 1) := (by rw [hW]; simp : W.heap.size = w.heap.size + 1 + 1)
  clear hW hlp hok hlf h0
  have k0 := box1_cell HLL.out.1
  obtain ⟨t0, t1, t2, t3⟩ := TlBlk.cells HLL.out.2
  refine (callsIn_wide (n := 4)).1 (callsIn_of_wp_marks Try.func47 rfl trivial ?_ rfl)
  refine wpIn_wide.2 ?_
  simp only [Try.ntmps47, List.size_toArray, List.length_cons, List.length_nil, Nat.reduceAdd, Nat.reduceSub, Array.replicate_succ, Array.replicate_zero, List.push_toArray, List.append_toArray, List.nil_append, List.cons_append]
  go_wp2_with fail
  rw [HW.out]
  refine (hPc _).mono ?_
  rintro e w3 ⟨u3, rfl, own3, hb3⟩
  have HO3 : Hid (w3.ownsRow W.heap.size 5 1 u3 lf.length (lf.map (Value.int .u8))) := own3
  obtain ⟨a3, c3, rfl⟩ := own_shape own3
  have hw1 := hz0.out
  have m3 := (hb3.cell (p := ⟨w.heap.size + 1, 3, none⟩) (by show w.heap.size + 1 < W.heap.size; omega)).trans t3
  have hz3 : w.heap.size + 1 < w3.heap.size := by have := hb3.size; omega
  have m3A : (((w3.alloc (.cells #[.slice a3 lf.length c3] 22)).alloc (.cells #[.slice a3 lf.length c3] 22)).alloc (.cells #[.slice (some ⟨w3.heap.size + 1, 0, none⟩) 1 1] 95)).cell? ⟨w.heap.size + 1, 3, none⟩ = some (.slice ad len c) := ((((one_new _).alloc (one_new _).size _).alloc ((one_new _).alloc (one_new _).size _).size _).cell (p := ⟨w.heap.size + 1, 3, none⟩) hz3).trans m3
  clear hPc own3 hw1
  go_wp2_with fail
  refine (hU _ (((below_after_of hB hb3).alloc (below_after_of hB hb3).size _).alloc ((below_after_of hB hb3).alloc (below_after_of hB hb3).size _).size _ |>.alloc (((below_after_of hB hb3).alloc (below_after_of hB hb3).size _).alloc ((below_after_of hB hb3).alloc (below_after_of hB hb3).size _).size _).size _)).mono ?_
  rintro e w4 ⟨rfl, hw4⟩
  have HW4 : Hid (w4 = (((w3.alloc (.cells #[.slice a3 lf.length c3] 22)).alloc (.cells #[.slice a3 lf.length c3] 22)).alloc (.cells #[.slice (some ⟨w3.heap.size + 1, 0, none⟩) 1 1] 95)).alloc (.cells #[.slice ad len c] 29)) := hw4
  simp only [World.size_alloc]
  clear hw4 hU m3A
  go_wp2
  have HZ4 : Hid (w4.heap.size = w3.heap.size + 1 + 1 + 1 + 1) := (by rw [HW4.out]; simp : w4.heap.size = w3.heap.size + 1 + 1 + 1 + 1)
  have hz4 : w3.heap.size < w4.heap.size := by have := HZ4.out; omega
  have hBw3 : Below w.heap.size w w3 := below_after_of hB hb3
  have hws : w.heap.size ≤ w3.heap.size := hBw3.size
  have hB4 : Below w3.heap.size w3 w4 := by rw [HW4.out]; exact (((one_new _).alloc (one_new _).size _).alloc ((one_new _).alloc (one_new _).size _).size _).alloc (((one_new _).alloc (one_new _).size _).alloc ((one_new _).alloc (one_new _).size _).size _).size _
  have hS4 : w4.heap[w3.heap.size + 1 + 1 + 1]? = some (.cells #[.slice ad len c] 29) := by
    have h1 := heap_alloc_new (((w3.alloc (.cells #[.slice a3 lf.length c3] 22)).alloc (.cells #[.slice a3 lf.length c3] 22)).alloc (.cells #[.slice (some ⟨w3.heap.size + 1, 0, none⟩) 1 1] 95)) (.cells #[.slice ad len c] 29)
    simp only [World.size_alloc] at h1
    rw [HW4.out]
    exact h1
  have hPI : PI w3.heap.size w.heap.size w4.heap.size w3 key lf [] w4 := by
    have q1 : w4.heap[w3.heap.size]? = some (.cells #[.slice a3 lf.length c3] 22) := by
      rw [HW4.out]
      exact ((((one_new _).alloc (one_new _).size _).alloc ((one_new _).alloc (one_new _).size _).size _).block w3.heap.size (by simp)).trans (heap_alloc_new w3 _)
    have q2 : w4.heap[w3.heap.size + 1 + 1]? = some (.cells #[.slice (some ⟨w3.heap.size + 1, 0, none⟩) 1 1] 95) := by
      have h1 := heap_alloc_new ((w3.alloc (.cells #[.slice a3 lf.length c3] 22)).alloc (.cells #[.slice a3 lf.length c3] 22)) (.cells #[.slice (some ⟨w3.heap.size + 1, 0, none⟩) 1 1] 95)
      simp only [World.size_alloc] at h1
      rw [HW4.out]
      exact ((one_new _).block (w3.heap.size + 1 + 1) (by simp)).trans h1
    have q3 : w4.ownsRow (w3.heap.size + 1) 22 1 (.slice (some ⟨w3.heap.size + 1, 0, none⟩) 1 1) 1 [.slice a3 lf.length c3] := by
      have h1 := own_one (w3.alloc (.cells #[.slice a3 lf.length c3] 22)) (w3.heap.size + 1) 22 (.slice a3 lf.length c3) (by simp)
      rw [World.size_alloc] at h1
      rw [HW4.out]
      exact own_below h1 (two_new _ _)
    have q4 : w4.ownsRow w.heap.size 5 1 (.slice a3 lf.length c3) lf.length (lf.map (Value.int .u8)) := own_mono (own_below HO3.out hB4) hB.size
    exact ⟨⟨a3, c3, w3.heap.size + 1, 1, [.slice a3 lf.length c3], q1, q2, q3, q4, PcRows.one q4⟩, hB4, Nat.le_refl _⟩
  have HV : Hid (∃ b off, (0 < len → ad = some ⟨b, off, none⟩ ∧ b < w.heap.size) ∧ ∀ j, j < len → w.cell? ⟨b, off + j * 2, none⟩ = some (.int .i64 (pAt f j).1) ∧ w.cell? ⟨b, off + j * 2 + 1, none⟩ = some (.int .i64 (pAt f j).2)) := (by
    have hl := HLP.out
    by_cases h0 : 0 < len
    · obtain ⟨-, b, off, e, hb, hc⟩ := hv.at (by omega)
      exact ⟨b, off, fun _ => ⟨e, hb⟩, fun j hj => hc j (by omega)⟩
    · exact ⟨0, 0, fun h => absurd h h0, fun j hj => by omega⟩ : ∃ b off, _)
  obtain ⟨b, off, hav, hcc⟩ := HV.out
  have HK3 : Hid (w3.heap[w.heap.size]? = some (.cells #[.int .i64 key] 2)) := (by have := hz0.out; exact (hb3.block _ (by omega)).trans HLL.out.1 : w3.heap[w.heap.size]? = some (.cells #[.int .i64 key] 2))
  clear HV hv k0 t0 t1 t2 t3 m3 hB hb3 HW
  refine (wpIn_wide (n := 4)).1 ?_
  refine wpIn_rangeFunc_ownH (α := Int × Fp) rfl (by decide) (gf := 105) (lb := #[.pointer (some ⟨w3.heap.size + 1 + 1 + 1, 0, none⟩)]) rfl trivial (enters_of Try.func105 (by kernel_rfl) rfl)
    (forksUp_stopsT (w := w4) 3 (by decide) w.heap.size (w3.heap.size + 1 + 1 + 1) b off len c ad f (gP f) (fun x => #[.int .i64 x.1, .agg #[.int .i64 x.2.1.1, .int .i64 x.2.1.2]]) HLP (by omega) (fun h => (hav h).2) ?hav ?hE (by omega) hS4 ?hc)
    KpT.trans ?hKb (Below.refl _ _) (fun _ => rfl)
    (PI w3.heap.size w.heap.size w4.heap.size w3 key lf)
    (fun _ _ _ => False) (PI.own (by have := HZ4.out; omega) rfl) (fun _ _ _ _ _ hs _ _ => hs) hPI
    (fun x a' W => ∃ Bx, w4.heap.size ≤ Bx ∧ W.heap[Bx]? = some (.cells #[.int .i64 x.2.1.1, .int .i64 x.2.1.2] 52) ∧ a' = { tmps := #[.int .i64 key, .agg #[.bool true, .int .i64 k, .int .i64 y, .slice ad len c], .pointer (some ⟨w.heap.size, 0, none⟩), .pointer (some ⟨w.heap.size + 1, 0, none⟩), .slice none 0 0, .pointer (some ⟨w3.heap.size, 0, none⟩), .pointer (some ⟨w3.heap.size + 1 + 1, 0, none⟩), undef, .pointer (some ⟨Bx, 0, none⟩), .pointer (some ⟨w.heap.size + 1, 0, none⟩), .bool true, .bool false, undef, undef, undef, .pointer (some ⟨w.heap.size + 1, 1, none⟩), .agg #[.int .i64 k, .int .i64 y], .agg #[.int .i64 k, .int .i64 y], .slice a3 lf.length c3, .slice a3 lf.length c3, .slice (some ⟨w3.heap.size + 1, 0, none⟩) 1 1, .pointer (some ⟨w.heap.size + 1, 3, none⟩), .slice ad len c, .func (.func 105) #[] #[.pointer (some ⟨w3.heap.size + 1 + 1 + 1, 0, none⟩)], .int .i64 x.1, .agg #[.int .i64 x.2.1.1, .int .i64 x.2.1.2], undef, undef, undef, undef, undef, undef, undef, undef, undef, undef, undef], defers := [] }) ?hAx ?assign ?body ?done ?stop
  case hav => exact fun h => ⟨(hav h).1, by have := (hav h).2; omega⟩
  case hE => exact fun j hj => by rw [(gP_at HFK.out hj).2, (gP_at HFK.out hj).1]
  case hc => exact fun j hj => ⟨((hB4.cell (p := ⟨b, off + j * 2, none⟩) (by have := (hav (by omega)).2; show b < w3.heap.size; omega)).trans (hBw3.cell (p := ⟨b, off + j * 2, none⟩) (hav (by omega)).2)).trans (hcc j hj).1, ((hB4.cell (p := ⟨b, off + j * 2 + 1, none⟩) (by have := (hav (by omega)).2; show b < w3.heap.size; omega)).trans (hBw3.cell (p := ⟨b, off + j * 2 + 1, none⟩) (hav (by omega)).2)).trans (hcc j hj).2⟩
  case hKb =>
    intro W l o o' hl h h1 h2
    refine ⟨belowK_b (w := w4) (by omega) W l o o' hl h h1 h2, fun q cs hq => ?_⟩
    have hne : q ≠ l := fun e => by subst e; rw [h] at hq; cases hq; simp [Obj.isCells] at h1
    rw [World.putObj_heap_other hne]
    exact hq
  case hAx =>
    rintro x a' - A B row ⟨Bx, h1, h2, h3⟩ hg hr
    refine ⟨Bx, h1, grown_blk hg h2 (fun e => ?_), h3⟩
    obtain ⟨-, o, ho, hn⟩ := hr Bx e.symm
    rw [h2] at ho
    cases ho
    simp [Obj.isCells] at hn
  case assign =>
    rintro l' pre x W K hPI' hK
    gi_wp2
    obtain ⟨⟨a, c', g, cp, us, h1, h2, h3, h4, h5⟩, hb', hz'⟩ := hPI'
    have hb1 := one_new (w := W) (.cells #[.int .i64 x.2.1.1, .int .i64 x.2.1.2] 52)
    exact hK _ _ ((KeepsOthers.alloc _ _).from _) (KpT.of_below (by omega) hb1) ⟨⟨a, c', g, cp, us, (hb1.block _ (Array.getElem?_eq_some_iff.1 h1).1).trans h1, (hb1.block _ (Array.getElem?_eq_some_iff.1 h2).1).trans h2, own_below h3 hb1, own_below h4 hb1, h5.below hb1⟩, hb'.alloc hb'.size _, Nat.le_trans hz' hb1.size⟩ ⟨W.heap.size, hz', heap_alloc_new W _, rfl⟩
  case body =>
    rintro l' pre x a' W hl ⟨r, hr⟩ ⟨⟨a, c', g, cp, us, h1, h2, h3, h4, h5⟩, hb', hz'⟩ ⟨Bx, hBx, hbk, rfl⟩ hlt
    obtain ⟨xa, ⟨⟨xb, xo⟩, hx⟩⟩ := x
    dsimp only at hbk ⊢
    obtain ⟨k0, k1, -, -⟩ := two_cellsV hbk
    have hxb := fkB_bd hx
    have hlo := pzs_ok (key := key) hlb hll pre
    have hsm := sm_ok (bs := (pzs key lf pre).2) (by omega)
    have HSN : Hid (pzs key lf (pre ++ [(xa, (⟨(xb, xo), hx⟩ : Fp))]) = ((pzs key lf pre).1 ++ [tagL 5 (ndL key xb xo (sumL (pzs key lf pre).2))], tagL 5 (ndL key xb xo (sumL (pzs key lf pre).2)))) := pzs_snoc _ _ _ _
    have hSm : ∀ w', Below W.heap.size W w' → Calls Try.prog 48 #[.slice a (pzs key lf pre).2.length c'] w' fun e w'' => e = .returned (.agg #[.int .i64 0, .int .i64 (sumL (pzs key lf pre).2)]) ∧ Below w'.heap.size w' w'' := fun w' h => by
      have q := implSumOf_any _ (pzs key lf pre).2 w' (own_ints (own_below h4 h)) hlo.1 (by omega)
      rw [hsm.1, hsm.2] at q
      exact q
    have hFB := fun w => forkBytes_any key xb xo (sumL (pzs key lf pre).2) w (inB_bd hk) hxb.1 hxb.2 (sumL_bd _)
    have hpl := pzs_len key lf pre
    have hf := field_IR1
    have ck := box1_cell ((hb'.block w.heap.size (by omega)).trans HK3.out)
    have cB := box1_cell h1
    have hltX : Bx < W.heap.size := (Array.getElem?_eq_some_iff.1 hbk).1
    have hltB : w3.heap.size < W.heap.size := by omega
    have HH1 : Hid (W.heap[w3.heap.size]? = some (.cells #[.slice a (pzs key lf pre).2.length c'] 22)) := h1
    have HH2 : Hid (W.heap[w3.heap.size + 1 + 1]? = some (.cells #[.slice (some ⟨g, 0, none⟩) (pre.length + 1) cp] 95)) := h2
    have HH3 : Hid (W.ownsRow (w3.heap.size + 1) 22 1 (.slice (some ⟨g, 0, none⟩) (pre.length + 1) cp) (pre.length + 1) us) := h3
    have HH5 : Hid (PcRows W w.heap.size us (pzs key lf pre).1) := h5
    have HHX : Hid (W.heap[Bx]? = some (.cells #[.int .i64 xb, .int .i64 xo] 52)) := hbk
    have H3 : Hid (Below w3.heap.size w3 W) := hb'
    have HPL : Hid (pre.length + 1 ≤ 8) := (by omega : pre.length + 1 ≤ 8)
    generalize sumL (pzs key lf pre).2 = sp at *
    generalize tagL 5 (ndL key xb xo sp) = ny at *
    generalize (pzs key lf pre).2 = py at *
    generalize (pzs key lf pre).1 = ps at *
    have hSk : W.cell? ⟨w.heap.size, 0, none⟩ = some (.int .i64 key) ∧ W.cell? ⟨Bx, 0, none⟩ = some (.int .i64 xb) ∧ W.cell? ⟨Bx, 1, none⟩ = some (.int .i64 xo) := ⟨ck, k0, k1⟩
    have HS : Hid (∀ w', Below W.heap.size W w' → w'.cell? ⟨w.heap.size, 0, none⟩ = some (.int .i64 key) ∧ w'.cell? ⟨Bx, 0, none⟩ = some (.int .i64 xb) ∧ w'.cell? ⟨Bx, 1, none⟩ = some (.int .i64 xo)) := fun w' h => ⟨(h.cell (p := ⟨w.heap.size, 0, none⟩) (by show w.heap.size < W.heap.size; omega)).trans ck, (h.cell (p := ⟨Bx, 0, none⟩) hltX).trans k0, (h.cell (p := ⟨Bx, 1, none⟩) hltX).trans k1⟩
    have HB : Hid (∀ w', Below W.heap.size W w' → w'.heap[w3.heap.size]? = some (.cells #[.slice a py.length c'] 22)) := fun w' h => (h.block _ hltB).trans HH1.out
    have hbb := Below.refl W.heap.size W
    have cBd : W.drew.cell? ⟨w3.heap.size, 0, none⟩ = some (.slice a py.length c') := cB
    clear h1 h2 h3 h4 h5 hxb hlo hsm hpl hbk
    gi_wp2
    refine region_round (S := fun w' => w'.cell? ⟨w.heap.size, 0, none⟩ = some (.int .i64 key) ∧ w'.cell? ⟨Bx, 0, none⟩ = some (.int .i64 xb) ∧ w'.cell? ⟨Bx, 1, none⟩ = some (.int .i64 xo)) (by kernel_rfl) ?nd ?no ?held
    case nd =>
      intro i o ho c
      rcases i with _ | _ | _ | _ | _ | _ | _ | i <;> simp at ho <;> (try subst ho) <;> simp
    case no =>
      rintro ⟨_, _, h⟩
      exact h
    case held =>
      have hHeld : W.drew.cell? ⟨w.heap.size, 0, none⟩ = some (.int .i64 key) ∧ W.drew.cell? ⟨Bx, 0, none⟩ = some (.int .i64 xb) ∧ W.drew.cell? ⟨Bx, 1, none⟩ = some (.int .i64 xo) := hSk
      refine h_take (i := 0) (d := (some 26)) (v := ?vq1) (by rfl) (by kernel_rfl) (by kernel_rfl) (by kernel_rfl) (fun _ _ _ h => h) (by rfl) ?hyq1 hHeld ?restq1
      case hyq1 =>
        intro o ho
        simp only [List.getElem?_toArray, List.getElem?_cons_zero, Option.some.injEq] at ho
        subst ho
        rintro w' ⟨s0, s1, s2⟩
        first | (go_simp; done) | (go_simp; with_reducible rfl)
      try simp only [Act.put, List.setIfInBounds_toArray, List.set_cons_zero, List.set_cons_succ]
      refine h_take (i := 1) (d := (some 27)) (v := ?vq2) (by rfl) (by kernel_rfl) (by kernel_rfl) (by kernel_rfl) (fun _ _ _ h => h) (by rfl) ?hyq2 hHeld ?restq2
      case hyq2 =>
        intro o ho
        simp only [List.getElem?_toArray, List.getElem?_cons_succ, List.getElem?_cons_zero, Option.some.injEq] at ho
        subst ho
        rintro w' ⟨s0, s1, s2⟩
        first | (go_simp; done) | (go_simp; with_reducible rfl)
      try simp only [Act.put, List.setIfInBounds_toArray, List.set_cons_zero, List.set_cons_succ]
      refine wpAnyH_ready (rs := [2]) (by kernel_rfl) (by simp) ?_
      refine AllReadyH.cons rfl (fun K hK => ?_) AllReadyH.nil
      go_simp
      try skip
      refine hK.out _ _ ?_ (fun hHeld => ?_)
      · first | exact hSk | exact HS.out _ hbb | exact HS.out _ hbb.drew
      clear hK K
      try simp only [Act.put, List.setIfInBounds_toArray, List.set_cons_zero, List.set_cons_succ]
      refine wpAnyH_ready (rs := [3]) (by kernel_rfl) (by simp) ?_
      refine AllReadyH.cons rfl (fun K hK => ?_) AllReadyH.nil
      go_simp
      refine (hSm _ hbb.drew).mono ?_
      rintro e wq ⟨rfl, hbq⟩
      have hbb : Below W.heap.size W wq := below_after_of hbb.drew hbq
      refine hK.out _ _ ?_ (fun hHeld => ?_)
      · first | exact hSk | exact HS.out _ hbb | exact HS.out _ hbb.drew
      clear hK K
      try simp only [Act.put, List.setIfInBounds_toArray, List.set_cons_zero, List.set_cons_succ]
      refine h_take (i := 4) (d := (some 30)) (v := ?vq3) (by rfl) (by kernel_rfl) (by kernel_rfl) (by kernel_rfl) (fun _ _ _ h => h) (by rfl) ?hyq3 hHeld ?restq3
      case hyq3 =>
        intro o ho
        simp only [List.getElem?_toArray, List.getElem?_cons_succ, List.getElem?_cons_zero, Option.some.injEq] at ho
        subst ho
        rintro w' ⟨s0, s1, s2⟩
        first | (go_simp; done) | (go_simp; with_reducible rfl)
      try simp only [Act.put, List.setIfInBounds_toArray, List.set_cons_zero, List.set_cons_succ]
      refine wpAnyH_ready (rs := [5]) (by kernel_rfl) (by simp) ?_
      refine AllReadyH.cons rfl (fun K hK => ?_) AllReadyH.nil
      go_simp
      refine (hFB _).mono ?_
      rintro e wr ⟨a5, c5, rfl, hbr5, own5⟩
      have hbb5 : Below W.heap.size W wr := below_after_of hbb hbr5
      have cB := box1_cell (HB.out _ hbb5)
      have fB : wr.frozen? ⟨w3.heap.size, 0, none⟩ = false := (by unfold World.frozen?; rw [HB.out _ hbb5]; rfl)
      refine hK.out _ _ ?_ (fun hHeld => ?_)
      · exact HS.out _ hbb5
      clear hK K
      try simp only [Act.put, List.setIfInBounds_toArray, List.set_cons_zero, List.set_cons_succ]
      refine wpAnyH_ready (rs := [6]) (by kernel_rfl) (by simp) ?_
      refine AllReadyH.cons rfl (fun K hK => ?_) AllReadyH.nil
      go_simp
      try skip
      refine hK.out _ _ ?_ (fun hHeld => ?_)
      · exact ⟨(World.cell?_setCell_other _ _ _ _ (by first | (simp; done) | (simp; omega))).trans (HS.out _ hbb5).1, (World.cell?_setCell_other _ _ _ _ (by first | (simp; done) | (simp; omega))).trans (HS.out _ hbb5).2.1, (World.cell?_setCell_other _ _ _ _ (by first | (simp; done) | (simp; omega))).trans (HS.out _ hbb5).2.2⟩
      clear hK K
      try simp only [Act.put, List.setIfInBounds_toArray, List.set_cons_zero, List.set_cons_succ]
      refine wpAnyH_done (by kernel_rfl) ?_ _
      obtain ⟨W5, hW5⟩ : ∃ W5, W5 = wr.setCell ⟨w3.heap.size, 0, none⟩ (.slice a5 ny.length c5) := ⟨_, rfl⟩
      have hg5 : wr.grownBy W5 (some w3.heap.size) := by rw [hW5]; exact grownBy_setCell' _ _ _
      have HX5 : Hid (W5.heap[w3.heap.size]? = some (.cells #[.slice a5 ny.length c5] 22)) := (by rw [hW5]; exact heap_setCell_same _ _ 0 _ _ _ (HB.out _ hbb5) : W5.heap[w3.heap.size]? = some (.cells #[.slice a5 ny.length c5] 22))
      have hlt2 := (Array.getElem?_eq_some_iff.1 HH2.out).1
      have HY5 : Hid (Boxed W5 (w3.heap.size + 1 + 1) 95 (.slice (some ⟨g, 0, none⟩) (pre.length + 1) cp)) := (grown_blk hg5 ((hbb5.block _ hlt2).trans HH2.out) (by simp; omega) : W5.heap[w3.heap.size + 1 + 1]? = _)
      have HR5 : Hid (W5.ownsRow (w3.heap.size + 1) 22 1 (.slice (some ⟨g, 0, none⟩) (pre.length + 1) cp) (pre.length + 1) us) := own_grown (own_below HH3.out hbb5) hg5 (Or.inr (fun e => by have := (HH3.out.lt _ e).1; omega))
      have hnu : ∀ (b : Nat) (cur : Array Value), some w3.heap.size = some b → wr.heap[b]? ≠ some (.cells cur 5) := fun b cur e => by cases e; exact not_type (HB.out _ hbb5) (by decide)
      have HO5 : Hid (W5.ownsRow w.heap.size 5 1 (.slice a5 ny.length c5) ny.length (ny.map (Value.int .u8))) := own_aside (own_mono own5 (by have := hbb.size; omega)) hg5 hnu
      have HP5 : Hid (PcRows W5 w.heap.size us ps) := (HH5.out.below hbb5).aside hg5 hnu
      have HZ5 : Hid (W.heap.size ≤ W5.heap.size) := Nat.le_trans hbb5.size hg5.size
      have HB5 : Hid (Below w3.heap.size W W5) := (hbb5.mono (Nat.le_of_lt hltB)).grown hg5 (Nat.le_trans (Nat.le_of_lt hltB) hbb5.size) (fun k hk => by cases hk; exact Nat.le_refl _)
      have HK5 : Hid (∀ (k : Nat) (o : Obj), k ≠ w3.heap.size → W.heap[k]? = some o → W5.heap[k]? = some o) := fun k o h1 h2 => grown_blk hg5 ((hbb5.block k (Array.getElem?_eq_some_iff.1 h2).1).trans h2) (by simp; exact h1)
      have y0 := HY5.out.cell
      have x0 := box1_cell HX5.out
      obtain ⟨i0, hi, hz0, hz1, hz2⟩ := info_parts Try.infoBs
      rw [← hW5]
      clear hW5 hg5 hnu hHeld hFB hSm hbr5 own5 cB fB HB HS
      gi_wp2_with (gi_at_builtin; refine wpListIn_append_own _ rfl _ _ 95 rfl (w3.heap.size + 1) 22 i0 _ 1 24 Try.underlying95 hi hz0 hz1 hz2 rfl (by decide) _ _ _ rfl (HR5.out.alloc _) ⟨W5.heap.size, 0, none⟩ 1 1 [.slice a5 ny.length c5] rfl rfl (cell_one_new _ _ _) (by simp [Value.oneCell']) (by have := HPL.out; unfold maxLen; omega) (by have := HPL.out; omega) (by have := HZ5.out; simp; omega) ?_; intro v' w8 hown' hgrow hnil; obtain ⟨g', cap', rfl⟩ := ownsRow_succ hown'; obtain ⟨hv1, hv2, hr2, hk2, hb2⟩ := HY5.out.appended (by decide) HR5.out (by have := HZ5.out; omega) (by omega) hown' hgrow; have hc1 := hv1.cell; have hf1 := hv1.frozen; have HHG : Hid ((W5.alloc (.cells #[.slice a5 ny.length c5] 22)).grownBy w8 (Value.slice (some ⟨g, 0, none⟩) (pre.length + 1) cp).ownBlock) := hgrow; clear hgrow hnil)
      obtain ⟨curg, hcg⟩ := own_type (HR5.out.alloc (.cells #[.slice a5 ny.length c5] 22)) (g := g) rfl
      have hkeep : ∀ (k : Nat) (o : Obj), k ≠ w3.heap.size → k ≠ g → k ≠ w3.heap.size + 1 + 1 → W.heap[k]? = some o → (w8.setCell ⟨w3.heap.size + 1 + 1, 0, none⟩ (.slice (some ⟨g', 0, none⟩) (pre.length + 1 + 1) cap')).heap[k]? = some o := fun k o e1 e2 e3 e4 => by
        rw [heap_setCell_other _ _ _ _ e3]
        refine grown_blk HHG.out (((one_new _).block k (Array.getElem?_eq_some_iff.1 (HK5.out k o e1 e4)).1).trans (HK5.out k o e1 e4)) (fun e => e2 ?_)
        simpa [Value.ownBlock] using e
      have hgo : ∀ (b : Nat) (cur : Array Value), (Value.slice (some ⟨g, 0, none⟩) (pre.length + 1) cp).ownBlock = some b → (W5.alloc (.cells #[.slice a5 ny.length c5] 22)).heap[b]? ≠ some (.cells cur 5) := fun b cur e => by
        have eb : g = b := by simpa [Value.ownBlock] using e
        subst eb
        exact not_type hcg (by decide)
      have hgs : ∀ (b : Nat) (cur : Array Value), some (w3.heap.size + 1 + 1) = some b → w8.heap[b]? ≠ some (.cells cur 5) := fun b cur e => by cases e; exact not_type hv1 (by decide)
      have hgt : ∀ (cs : Array Value) (t : TypeId), t ≠ 22 → W.heap[g]? ≠ some (.cells cs t) := fun cs t ht h => by
        obtain ⟨cur, hc⟩ := own_type HH3.out (g := g) rfl
        rw [h] at hc
        simp at hc
        exact ht hc.2
      have q1 : (w8.setCell ⟨w3.heap.size + 1 + 1, 0, none⟩ (.slice (some ⟨g', 0, none⟩) (pre.length + 1 + 1) cap')).heap[w3.heap.size]? = some (.cells #[.slice a5 ny.length c5] 22) := by
        rw [heap_setCell_other _ _ _ _ (by show w3.heap.size ≠ w3.heap.size + 1 + 1; omega)]
        refine grown_blk HHG.out (((one_new _).block _ (Array.getElem?_eq_some_iff.1 HX5.out).1).trans HX5.out) (fun e => ?_)
        have := (HR5.out.lt g rfl).1
        have e' : w3.heap.size = g := by simpa [Value.ownBlock] using e
        omega
      have q2 := own_aside (own_aside (own_below HO5.out (one_new (.cells #[.slice a5 ny.length c5] 22))) HHG.out hgo) (grownBy_setCell' w8 (w3.heap.size + 1 + 1) (.slice (some ⟨g', 0, none⟩) (pre.length + 1 + 1) cap')) hgs
      have q3 := ((HP5.out.below (one_new (.cells #[.slice a5 ny.length c5] 22))).aside HHG.out hgo).aside (grownBy_setCell' w8 (w3.heap.size + 1 + 1) (.slice (some ⟨g', 0, none⟩) (pre.length + 1 + 1) cap')) hgs
      have hszE : W.heap.size ≤ (w8.setCell ⟨w3.heap.size + 1 + 1, 0, none⟩ (.slice (some ⟨g', 0, none⟩) (pre.length + 1 + 1) cap')).heap.size := by
        rw [World.size_setCell]
        exact Nat.le_trans HZ5.out (Nat.le_trans (one_new _).size HHG.out.size)
      refine ⟨⟨hszE, fun k o hk ho hno => ?_⟩, ⟨(HB5.out.mono (by omega)).trans (hb2.mono (by omega)), fun k cs hk => ?_⟩, ⟨a5, c5, g', cap', us ++ [.slice a5 ny.length c5], ?_⟩, ?_, Nat.le_trans hz' hszE⟩
      · refine hkeep k o (by omega) (fun e => ?_) (by have := HZ4.out; omega) ho
        subst e
        obtain ⟨cur, hc⟩ := own_type HH3.out (g := k) rfl
        rw [hc] at ho
        cases ho
        simp [Obj.isCells] at hno
      · refine hkeep k _ (fun e => ?_) (fun e => ?_) (fun e => ?_) hk
        · subst e; exact not_type HH1.out (by decide) hk
        · subst e; exact hgt _ _ (by decide) hk
        · subst e; exact not_type HH2.out (by decide) hk
      · rw [HSN.out, List.length_append]
        exact ⟨q1, hv2, hr2, q2, q3.snoc q2⟩
      · exact (H3.out.trans HB5.out).trans (hb2.mono (by omega))
  case done =>
    rintro D ys W hD rfl ⟨⟨a, c', g, cp, us, h1, h2, h3, h4, h5⟩, hb', hz'⟩ hKD
    rw [upTo_len] at h2 h3
    rw [pzs_up HFK.out len (Nat.le_refl _)] at h5
    have c0 := box1_cell h2
    have hB6 : Below w.heap.size w (W.putObj D (.deferred none)) := (below_after_of hBw3 hb').trans (belowK_b (w := w) (Nat.le_refl _) W D _ _ (by omega) hKD rfl rfl)
    have hR6 := ownsRow_putObj h3 (.deferred none) hKD rfl
    have hP6 : PcRows (W.putObj D (.deferred none)) w.heap.size us ((List.range (len + 1)).map (pcL key f lf)) := ⟨h5.n, fun j u ys e1 e2 => ownsRow_putObj (h5.r j u ys e1 e2) (.deferred none) hKD rfl⟩
    have HPL : Hid (((List.range (len + 1)).map (pcL key f lf)).length = len + 1) := (by simp : ((List.range (len + 1)).map (pcL key f lf)).length = len + 1)
    clear h1 h2 h3 h4 h5 hb'
    go_wp2
    refine ⟨by simp, .inl ⟨_, _, rfl, run_takeDeferred hKD, ?_⟩⟩
    refine ⟨.slice (some ⟨g, 0, none⟩) (len + 1) cp, by simp [results, Try.results47, go_sem, *], hB6, g, cp, us, by rw [HPL.out], ?_, hP6⟩
    rw [HPL.out]
    exact own_mono hR6 (by omega)
  case stop =>
    rintro D c' pre W _ _ h _
    exact h.elim
end U
end Go.Proofs.Ytljbcpkjhnbpeaa

/- The pieces of a trail, and what comes of climbing it, as the program finds them. -/
namespace Go.Proofs.Ytljbcpkjhnbpeaa
open Go.RowKit Go.Shelf
namespace U
/-- The piece of a trail's leaf, or of nothing. -/
def lfB (x : Bool) (k y : Int) : List Int := if x then tagL 4 [k, y] else tagL 9 []
theorem lfB_sum (x : Bool) (k y : Int) : sumL (lfB x k y) = lfS x k y := by cases x <;> rfl
/-- The pieces of a trail. -/
def pcsL (key : Int) (x : Bool) (k y : Int) (f : Prl) : List (List Int) := (List.range (f.length + 1)).map (pcL key f (lfB x k y))
theorem pcsL_len (key : Int) (x : Bool) (k y : Int) (f : Prl) : (pcsL key x k y f).length = f.length + 1 := by simp [pcsL]
theorem pcsL_at {key : Int} {x : Bool} {k y : Int} {f : Prl} {j : Nat} (hj : j ≤ f.length) : (pcsL key x k y f)[j]? = some (pcL key f (lfB x k y) j) := by
  unfold pcsL
  rw [List.getElem?_map, List.getElem?_range (by omega)]
  rfl
theorem lfB_bts {x : Bool} {k y : Int} {f : Prl} (h0 : tlF x k y f = 0) : Bts (lfB x k y) := by
  have hf := fine_bd (tlF_ok h0).leaf
  cases x
  · exact tagL_bts (by omega) rfl
  · exact tagL_bts (by omega) (by simp [sumB_iff]; omega)
theorem lfB_len (x : Bool) (k y : Int) : (lfB x k y).length ≤ 8 := by
  cases x <;> simp [lfB, tagL_len]
theorem pcL_bts {key : Int} {x : Bool} {k y : Int} {f : Prl} (h0 : tlF x k y f = 0) {j : Nat} (hj : j ≤ f.length) : Bts (pcL key f (lfB x k y) j) := by
  rcases j with _ | j
  · exact lfB_bts h0
  · have h1 := fkB_bd (fkS_at (tlF_ok h0).fk (k := j) (by omega)).1
    exact tagL_bts (by omega) (ndL_ok h1.1 h1.2 (clmN_bd (sumL_bd _) _))
theorem pcL_len (key : Int) (x : Bool) (k y : Int) (f : Prl) (j : Nat) : (pcL key f (lfB x k y) j).length ≤ 8 := by
  rcases j with _ | j
  · exact lfB_len x k y
  · show (tagL 5 _).length ≤ 8
    rw [tagL_len, ndL_len]
    omega
/-- A piece that was told. -/
theorem PcRows.at {W : World} {B A : Nat} {us : List Value} {ps : List (List Int)} {g c n : Nat} (h : PcRows W B us ps) (ho : W.ownsRow A 22 1 (.slice (some ⟨g, 0, none⟩) n c) n us) {j : Nat} {ys : List Int} (hj : ps[j]? = some ys) :
    ∃ a d, W.cell? ⟨g, j, none⟩ = some (.slice a ys.length d) ∧ W.ownsRow B 5 1 (.slice a ys.length d) ys.length (ys.map (Value.int .u8)) := by
  have hlt : j < us.length := by rw [h.n]; exact (List.getElem?_eq_some_iff.1 hj).1
  have hu : us[j]? = some us[j] := List.getElem?_eq_getElem hlt
  have hr := h.r j us[j] ys hu hj
  obtain ⟨a, d, e⟩ := own_shape hr
  have hc := ho.cells (g := g) rfl j us[j] hu
  have hadd : (⟨g, 0, none⟩ : Addr).add j = ⟨g, j, none⟩ := by unfold Addr.add; split <;> simp_all
  rw [hadd] at hc
  rw [e] at hc hr
  exact ⟨a, d, hc, hr⟩
set_option maxRecDepth 100000 in
set_option maxHeartbeats 2000000 in
theorem trailPieces_none (key : Int) (sv : Value) (w : World) (hv : Prs w sv []) :
    Calls Try.prog 47 #[.int .i64 key, .agg #[.bool false, .int .i64 0, .int .i64 0, sv]] w fun e w' => PcsAns w [tagL 9 []] e w' := by
  have hPc := piece_none.c
  simp only [pcF_none, pcV_none, Tr.bts_none] at hPc
  obtain ⟨ad, c, rfl⟩ := hv.shape
  clear hv
  generalize tagL 9 [] = lf at *
  obtain ⟨W, hW⟩ : ∃ W, W = (w.alloc (.cells #[.int .i64 key] 2)).alloc (.cells #[.bool false, .int .i64 0, .int .i64 0, .slice ad 0 c] 31) := ⟨_, rfl⟩
  have HW : Hid ((w.alloc (.cells #[.int .i64 key] 2)).alloc (.cells #[.bool false, .int .i64 0, .int .i64 0, .slice ad 0 c] 31) = W) := hW.symm
  have hB : Below w.heap.size w W := by rw [hW]; exact two_new _ _
  clear hW
  go_enter Try.func47, Try.ntmps47
  go_wp2_with fail
  rw [HW.out]
  refine (hPc _).mono ?_
  rintro e w3 ⟨u3, rfl, own3, hb3⟩
  have HO3 : Hid (w3.ownsRow w.heap.size 5 1 u3 lf.length (lf.map (Value.int .u8))) := own_mono own3 hB.size
  obtain ⟨a3, c3, rfl⟩ := own_shape own3
  have hB3 := below_after_of hB hb3
  clear hPc own3 hb3
  go_wp2
  go_ret
  exact ⟨hB3.alloc hB3.size _, w3.heap.size, 1, [.slice a3 lf.length c3], rfl, own_one w3 _ _ _ hB3.size, PcRows.one (own_below HO3.out (one_new _))⟩
theorem trailPieces_any (key : Int) (x : Bool) (k y : Int) (sv : Value) (f : Prl) (w : World) (hv : Prs w sv f) (hk : inB key 0 255 = true) (h0 : tlF x k y f = 0) :
    Calls Try.prog 47 #[.int .i64 key, .agg #[.bool x, .int .i64 k, .int .i64 y, sv]] w fun e w' => PcsAns w (pcsL key x k y f) e w' := by
  cases x
  · obtain ⟨rfl, rfl, rfl⟩ := (tlF_ok h0).any rfl
    exact trailPieces_none key sv w hv
  · exact trailPieces_some key k y sv f w hv hk h0
end U
end Go.Proofs.Ytljbcpkjhnbpeaa

/- Climbing a trail: what the program and the model answer at every argument. -/
namespace Go.Proofs.Ytljbcpkjhnbpeaa
open Go.RowKit
namespace U
def clC (key : Int) (x : Bool) (k y : Int) (f : Prl) : Int := if inB key 0 255 = true then tlF x k y f else 3
def clW (key : Int) (x : Bool) (k y : Int) (f : Prl) : Int := if clC key x k y f = 0 then clV key x k y f else 0
theorem clC_out {key : Int} {x : Bool} {k y : Int} {f : Prl} (h : inB key 0 255 = false) : clC key x k y f = 3 := by unfold clC; rw [h]; rfl
theorem clC_in {key : Int} {x : Bool} {k y : Int} {f : Prl} (h : inB key 0 255 = true) : clC key x k y f = tlF x k y f := by unfold clC; rw [h]; rfl
theorem clW_no {key : Int} {x : Bool} {k y : Int} {f : Prl} (h : clC key x k y f ≠ 0) : clW key x k y f = 0 := if_neg h
theorem clW_ok {key : Int} {x : Bool} {k y : Int} {f : Prl} (h : clC key x k y f = 0) : clW key x k y f = clV key x k y f := if_pos h
set_option maxRecDepth 100000 in
set_option maxHeartbeats 2000000 in
theorem implClimbNew_out (key : Int) (x : Bool) (k y : Int) (sv : Value) (f : Prl) (w : World) (hv : Prs w sv f) (hk : inB key 0 255 = false) :
    Calls Try.prog 12 #[.int .i64 key, .agg #[.bool x, .int .i64 k, .int .i64 y, sv]] w fun e w' => IntAns w 3 0 e w' := by
  have hK := fun w => isKey_any key w
  rw [hk] at hK
  obtain ⟨ad, c, rfl⟩ := hv.shape
  generalize f.length = n at *
  clear hv hk
  go_enter Try.func12, Try.ntmps12
  go_wp2_with fail
  refine (hK _).mono ?_
  rintro e w1 ⟨rfl, hw1⟩
  subst hw1
  clear hK
  go_wp2
  refine bodyPost_ret (v := .agg #[.int .i64 3, .int .i64 0]) (by simp [results, Try.results12, go_sem]) rfl ⟨rfl, ?_⟩
  exact two_new _ _
set_option maxRecDepth 100000 in
set_option maxHeartbeats 2000000 in
theorem implClimbNew_rest (key : Int) (x : Bool) (k y : Int) (sv : Value) (f : Prl) (w : World) (hv : Prs w sv f) (hk : inB key 0 255 = true) (q r : Int) (hq : (q = tlF x k y f ∧ q ≠ 0 ∧ r = 0) ∨ (tlF x k y f = 0 ∧ q = 0 ∧ r = clV key x k y f)) :
    Calls Try.prog 12 #[.int .i64 key, .agg #[.bool x, .int .i64 k, .int .i64 y, sv]] w fun e w' => IntAns w q r e w' := by
  have hK := fun w => isKey_any key w
  have hF := fun w' h => implTrailFault_any x k y sv f w' (hv.below (w' := w') h)
  have hP := fun h0 w' h => trailPieces_any key x k y sv f w' (hv.below (w' := w') h) hk h0
  rw [hk] at hK
  obtain ⟨ad, c, rfl⟩ := hv.shape
  obtain ⟨len, hlp⟩ : ∃ len, len = f.length := ⟨_, rfl⟩
  have HLP : Hid (len = f.length) := hlp
  rw [← hlp] at hF hP ⊢
  obtain ⟨W, hW⟩ : ∃ W, W = (w.alloc (.cells #[.bool x, .int .i64 k, .int .i64 y, .slice ad len c] 31)).alloc (.cells #[.int .i64 0, .int .i64 0] 38) := ⟨_, rfl⟩
  have HW : Hid ((w.alloc (.cells #[.bool x, .int .i64 k, .int .i64 y, .slice ad len c] 31)).alloc (.cells #[.int .i64 0, .int .i64 0] 38) = W) := hW.symm
  have hB : Below w.heap.size w W := by rw [hW]; exact two_new _ _
  have HLL : Hid (W.heap[w.heap.size]? = some (.cells #[.bool x, .int .i64 k, .int .i64 y, .slice ad len c] 31) ∧ W.heap[w.heap.size + 1]? = some (.cells #[.int .i64 0, .int .i64 0] 38)) := (by
    rw [hW]
    have h1 := heap_alloc_new (w.alloc (.cells #[.bool x, .int .i64 k, .int .i64 y, .slice ad len c] 31)) (.cells #[.int .i64 0, .int .i64 0] 38)
    simp only [World.size_alloc] at h1
    exact ⟨((one_new _).block w.heap.size (by simp)).trans (heap_alloc_new w _), h1⟩ : _ ∧ _)
  have hz0 : Hid (w.heap.size + 1 < W.heap.size) := (Array.getElem?_eq_some_iff.1 HLL.out.2).1
  obtain ⟨t0, t1, t2, t3⟩ := TlBlk.cells HLL.out.1
  have HT : Hid (∀ w', Below W.heap.size W w' → TlBlk w' w.heap.size x k y (.slice ad len c)) := fun w' h => TlBlk.below HLL.out.1 h
  rcases hq with ⟨rfl, hq, rfl⟩ | ⟨hq, rfl, rfl⟩
  · generalize tlF x k y f = q at *
    have hqn : (q != 0) = true := by simpa using hq
    clear hW hv hk hq hlp hP
    go_enter Try.func12, Try.ntmps12
    go_wp2_with fail
    rw [HW.out]
    refine (hK _).mono ?_
    rintro e w1 ⟨rfl, rfl⟩
    clear hK
    go_wp2_with fail
    refine (hF _ hB).mono ?_
    rintro e w2 ⟨rfl, hb2⟩
    obtain ⟨g0, g1, f0, f1⟩ := two_cellsV ((hb2.block (w.heap.size + 1) hz0.out).trans HLL.out.2)
    have hB2 := below_after_of hB hb2
    clear hF hb2 t0 t1 t2 t3
    go_wp2
    refine bodyPost_ret (v := .agg #[.int .i64 q, .int .i64 0]) (by simp [results, Try.results12, go_sem, *]) rfl ⟨rfl, ?_⟩
    exact (hB2.setCell (by show w.heap.size ≤ w.heap.size + 1; omega) _).setCell (by show w.heap.size ≤ w.heap.size + 1; omega) _
  · have hPc := hP hq
    have hpb := pcL_bts (key := key) hq (Nat.le_refl _)
    have hpn := pcL_len key x k y f f.length
    have hsm := sm_ok (bs := pcL key f (lfB x k y) f.length) (by omega)
    have hpv : smV (pcL key f (lfB x k y) f.length) = clV key x k y f := by rw [hsm.2, pcL_sum, lfB_sum]; rfl
    have hS := fun v w h => implSumOf_any v (pcL key f (lfB x k y) f.length) w h hpb (by omega)
    rw [hpv, hsm.1] at hS
    have HAT : Hid ((pcsL key x k y f)[len]? = some (pcL key f (lfB x k y) f.length)) := (by rw [hlp]; exact pcsL_at (Nat.le_refl _) : (pcsL key x k y f)[len]? = some (pcL key f (lfB x k y) f.length))
    have HLN : Hid ((pcsL key x k y f).length = len + 1) := (by rw [hlp]; exact pcsL_len _ _ _ _ _ : (pcsL key x k y f).length = len + 1)
    have hle : len ≤ 8 := by rw [hlp]; exact (tlF_ok hq).len
    rw [hq] at hF
    generalize clV key x k y f = r at *
    generalize pcL key f (lfB x k y) f.length = ys at *
    generalize pcsL key x k y f = ps at *
    clear hW hv hk hq hlp hP hpb hpn hsm hpv
    go_enter Try.func12, Try.ntmps12
    go_wp2_with fail
    rw [HW.out]
    refine (hK _).mono ?_
    rintro e w1 ⟨rfl, rfl⟩
    clear hK
    go_wp2_with fail
    refine (hF _ hB).mono ?_
    rintro e w2 ⟨rfl, hb2⟩
    obtain ⟨m0, m1, m2, m3⟩ := (HT.out _ hb2).cells
    clear hF t0 t1 t2 t3
    go_wp2_with fail
    refine (hPc _ (below_after_of hB hb2)).mono ?_
    rintro e w3 ⟨hb3, g, cc, us, rfl, ho3, hr3⟩
    rw [HLN.out] at ho3 ⊢
    obtain ⟨a4, d4, c4, o4⟩ := hr3.at ho3 HAT.out
    have I4 := own_ints o4
    have hb13 := below_after_of hb2 hb3
    have hl1 : (0 : Int) ≤ (len : Int) := by omega
    have hl2 : (len : Int) < ((len + 1 : Nat) : Int) := by omega
    have hl3 : IntKind.i64.wrap (((len + 1 : Nat) : Int) - 1) = (len : Int) := by rw [IntKind.wrap_i64]; omega
    clear hPc hb2 hb3 hr3 m0 m1 m2 m3
    go_wp2_with fail
    refine (hS _ _ I4).mono ?_
    rintro e w4 ⟨rfl, hb4⟩
    have hb14 := below_after_of hb13 hb4
    obtain ⟨g0, g1, f0, f1⟩ := two_cellsV ((hb14.block (w.heap.size + 1) hz0.out).trans HLL.out.2)
    have hB3 := below_after_of hB hb14
    clear hS hb4 hb13 hb14 I4 c4
    go_wp2
    refine bodyPost_ret (v := .agg #[.int .i64 0, .int .i64 r]) (by simp [results, Try.results12, go_sem, *]) rfl ⟨rfl, ?_⟩
    exact (hB3.setCell (by show w.heap.size ≤ w.heap.size + 1; omega) _).setCell (by show w.heap.size ≤ w.heap.size + 1; omega) _
theorem implClimbNew_any (key : Int) (x : Bool) (k y : Int) (sv : Value) (f : Prl) (w : World) (hv : Prs w sv f) :
    Calls Try.prog 12 #[.int .i64 key, .agg #[.bool x, .int .i64 k, .int .i64 y, sv]] w fun e w' => IntAns w (clC key x k y f) (clW key x k y f) e w' := by
  rcases Bool.eq_false_or_eq_true (inB key 0 255) with hk | hk
  · by_cases h : tlF x k y f = 0
    · have hc : clC key x k y f = 0 := by rw [clC_in hk, h]
      rw [hc, clW_ok hc]
      exact implClimbNew_rest key x k y sv f w hv hk _ _ (Or.inr ⟨h, rfl, rfl⟩)
    · have hc : clC key x k y f ≠ 0 := by rw [clC_in hk]; exact h
      rw [clW_no hc]
      exact implClimbNew_rest key x k y sv f w hv hk _ _ (Or.inl ⟨clC_in hk, hc, rfl⟩)
  · rw [clW_no (by rw [clC_out hk]; decide), clC_out hk]
    exact implClimbNew_out key x k y sv f w hv hk
end U
end Go.Proofs.Ytljbcpkjhnbpeaa

/- Climbing a trail: what the model answers at every argument. -/
namespace Go.Proofs.Ytljbcpkjhnbpeaa
open Go.RowKit
namespace U
set_option maxRecDepth 100000 in
set_option maxHeartbeats 2000000 in
theorem specClimbNew_out (key : Int) (x : Bool) (k y : Int) (sv : Value) (f : Prl) (w : World) (hv : Prs w sv f) (hk : inB key 0 255 = false) :
    Calls Try.prog 14 #[.int .i64 key, .agg #[.bool x, .int .i64 k, .int .i64 y, sv]] w fun e w' => IntAns w 3 0 e w' := by
  have hK := fun w => l4Key_any key w
  rw [hk] at hK
  obtain ⟨ad, c, rfl⟩ := hv.shape
  generalize f.length = n at *
  clear hv hk
  go_enter Try.func14, Try.ntmps14
  go_wp2_with fail
  refine (hK _).mono ?_
  rintro e w1 ⟨rfl, hw1⟩
  subst hw1
  clear hK
  go_wp2
  refine bodyPost_ret (v := .agg #[.int .i64 3, .int .i64 0]) (by simp [results, Try.results14, go_sem]) rfl ⟨rfl, ?_⟩
  exact two_new _ _
set_option maxRecDepth 100000 in
set_option maxHeartbeats 2000000 in
theorem specClimbNew_rest (key : Int) (x : Bool) (k y : Int) (sv : Value) (f : Prl) (w : World) (hv : Prs w sv f) (hk : inB key 0 255 = true) (q r : Int) (hq : (q = tlF x k y f ∧ q ≠ 0 ∧ r = 0) ∨ (tlF x k y f = 0 ∧ q = 0 ∧ r = clV key x k y f)) :
    Calls Try.prog 14 #[.int .i64 key, .agg #[.bool x, .int .i64 k, .int .i64 y, sv]] w fun e w' => IntAns w q r e w' := by
  have hK := fun w => l4Key_any key w
  rw [hk] at hK
  obtain ⟨W, hW⟩ : ∃ W, W = (w.alloc (.cells #[.bool x, .int .i64 k, .int .i64 y, sv] 31)).alloc (.cells #[.int .i64 0, .int .i64 0] 38) := ⟨_, rfl⟩
  have HW : Hid ((w.alloc (.cells #[.bool x, .int .i64 k, .int .i64 y, sv] 31)).alloc (.cells #[.int .i64 0, .int .i64 0] 38) = W) := hW.symm
  have hB : Below w.heap.size w W := by rw [hW]; exact two_new _ _
  have H : TlBlk W w.heap.size x k y sv := by rw [hW]; exact (tl_box w x k y _).below (one_new _)
  have HR : W.heap[w.heap.size + 1]? = some (.cells #[.int .i64 0, .int .i64 0] 38) := by
    have h := heap_alloc_new (w.alloc (.cells #[.bool x, .int .i64 k, .int .i64 y, sv] 31)) (.cells #[.int .i64 0, .int .i64 0] 38)
    rw [World.size_alloc] at h
    rw [hW]
    exact h
  have hr := (Array.getElem?_eq_some_iff.1 HR).1
  have hF := l7Fault_any w.heap.size x k y sv f W H (hv.below hB)
  obtain ⟨ad, c, rfl⟩ := hv.shape
  have hCl : tlF x k y f = 0 → ∀ w', Below W.heap.size W w' → Calls Try.prog 52 #[.int .i64 key, .pointer (some ⟨w.heap.size, 0, none⟩), .int .i64 (f.length : Int)] w' fun e w'' => e = .returned (.int .i64 (clV key x k y f)) ∧ Below w'.heap.size w' w'' := by
    intro h0 w' hb
    have hok := tlF_ok h0
    cases x
    · obtain ⟨rfl, rfl, rfl⟩ := hok.any rfl
      exact l7Climb_none key w.heap.size 0 0 _ _ w' (H.below hb)
    · have hf := fine_bd hok.leaf
      exact l7Climb_some key w.heap.size k y ad f.length c f.length f w' (H.below hb) ((hv.below hB).below hb) rfl (inB_bd hk) hf.1 hf.2 (Nat.le_refl _) hok.len hok.fk
  obtain ⟨t0, t1, t2, t3⟩ := H.cells
  have HC : Hid (∀ w', Below W.heap.size W w' → w'.cell? ⟨w.heap.size, 3, none⟩ = some (.slice ad f.length c)) := fun w' h => (H.below h).cells.2.2.2
  rcases hq with ⟨rfl, hq, rfl⟩ | ⟨hq, rfl, rfl⟩
  · generalize tlF x k y f = q at *
    generalize f.length = len at *
    have hqn : (q != 0) = true := by simpa using hq
    clear hW hv hk hq hCl H
    go_enter Try.func14, Try.ntmps14
    go_wp2_with fail
    rw [HW.out]
    refine (hK _).mono ?_
    rintro e w1 ⟨rfl, rfl⟩
    clear hK
    go_wp2_with fail
    refine hF.mono ?_
    rintro e w2 ⟨rfl, hb2⟩
    obtain ⟨g0, g1, f0, f1⟩ := two_cellsV ((hb2.block (w.heap.size + 1) hr).trans HR)
    have hB2 := below_after_of hB hb2
    clear hF hb2 t0 t1 t2 t3
    go_wp2
    refine bodyPost_ret (v := .agg #[.int .i64 q, .int .i64 0]) (by simp [results, Try.results14, go_sem, *]) rfl ⟨rfl, ?_⟩
    exact (hB2.setCell (Nat.le_succ _) _).setCell (Nat.le_succ _) _
  · have hC := hCl hq
    rw [hq] at hF
    generalize clV key x k y f = r at *
    generalize f.length = len at *
    clear hW hv hk hq hCl H
    go_enter Try.func14, Try.ntmps14
    go_wp2_with fail
    rw [HW.out]
    refine (hK _).mono ?_
    rintro e w1 ⟨rfl, rfl⟩
    clear hK
    go_wp2_with fail
    refine hF.mono ?_
    rintro e w2 ⟨rfl, hb2⟩
    have m3 := HC.out _ hb2
    clear hF t0 t1 t2 t3
    go_wp2_with fail
    refine (hC _ hb2).mono ?_
    rintro e w3 ⟨rfl, hb3⟩
    have hb13 := below_after_of hb2 hb3
    obtain ⟨g0, g1, f0, f1⟩ := two_cellsV ((hb13.block (w.heap.size + 1) hr).trans HR)
    have hB3 := below_after_of hB hb13
    clear hC hb2 hb3 hb13 m3
    go_wp2
    refine bodyPost_ret (v := .agg #[.int .i64 0, .int .i64 r]) (by simp [results, Try.results14, go_sem, *]) rfl ⟨rfl, ?_⟩
    exact (hB3.setCell (Nat.le_succ _) _).setCell (Nat.le_succ _) _
theorem specClimbNew_any (key : Int) (x : Bool) (k y : Int) (sv : Value) (f : Prl) (w : World) (hv : Prs w sv f) :
    Calls Try.prog 14 #[.int .i64 key, .agg #[.bool x, .int .i64 k, .int .i64 y, sv]] w fun e w' => IntAns w (clC key x k y f) (clW key x k y f) e w' := by
  rcases Bool.eq_false_or_eq_true (inB key 0 255) with hk | hk
  · by_cases h : tlF x k y f = 0
    · have hc : clC key x k y f = 0 := by rw [clC_in hk, h]
      rw [hc, clW_ok hc]
      exact specClimbNew_rest key x k y sv f w hv hk _ _ (Or.inr ⟨h, rfl, rfl⟩)
    · have hc : clC key x k y f ≠ 0 := by rw [clC_in hk]; exact h
      rw [clW_no hc]
      exact specClimbNew_rest key x k y sv f w hv hk _ _ (Or.inl ⟨clC_in hk, hc, rfl⟩)
  · rw [clW_no (by rw [clC_out hk]; decide), clC_out hk]
    exact specClimbNew_out key x k y sv f w hv hk
end U
end Go.Proofs.Ytljbcpkjhnbpeaa

/- Taking a trail: what the program and the model answer at every argument. -/
namespace Go.Proofs.Ytljbcpkjhnbpeaa
open Go.RowKit
namespace U
/-- Does a trail say that of a key? -/
def sayB (key : Int) (th : Bool) (v : Int) (x : Bool) (k y : Int) : Bool := if th then x && (k == key && y == v) else v == 0 && (!x || k != key)
def acN (key : Int) (th : Bool) (v : Int) (x : Bool) (k y : Int) (f : Prl) (root : Int) : Bool := clC key x k y f == 0 && (clW key x k y f == root && sayB key th v x k y)
set_option maxRecDepth 100000 in
set_option maxHeartbeats 2000000 in
theorem l7Says_any (key : Int) (th : Bool) (v : Int) (p : Nat) (x : Bool) (k y : Int) (sv : Value) (w : World) (H : TlBlk w p x k y sv) :
    Calls Try.prog 53 #[.int .i64 key, .bool th, .int .i64 v, .pointer (some ⟨p, 0, none⟩)] w fun e w' => e = .returned (.bool (sayB key th v x k y)) ∧ Below w.heap.size w w' := by
  obtain ⟨c0, c1, c2, c3⟩ := H.cells
  clear H
  unfold sayB
  cases th
  · by_cases hv : v = 0
    · subst hv
      cases x
      · go_enter Try.func53, Try.ntmps53
        go_wp2
        go_ret
        exact ⟨ret_bool (by simp), Below.refl _ _⟩
      · go_enter Try.func53, Try.ntmps53
        go_wp2
        go_ret
        exact ⟨ret_bool (by simp), Below.refl _ _⟩
    · have hv1 : (v == 0) = false := by simpa using hv
      clear hv
      go_enter Try.func53, Try.ntmps53
      go_wp2
      go_ret
      exact ⟨ret_bool (by simp), Below.refl _ _⟩
  · cases x
    · go_enter Try.func53, Try.ntmps53
      go_wp2
      go_ret
      exact ⟨ret_bool (by simp), Below.refl _ _⟩
    · by_cases hk : k = key
      · subst hk
        have hkk : (k == k) = true := by simp
        go_enter Try.func53, Try.ntmps53
        go_wp2
        go_ret
        exact ⟨ret_bool (by simp), Below.refl _ _⟩
      · have hk1 : (k == key) = false := by simpa using hk
        clear hk
        go_enter Try.func53, Try.ntmps53
        go_wp2
        go_ret
        exact ⟨ret_bool (by simp), Below.refl _ _⟩
set_option maxRecDepth 100000 in
set_option maxHeartbeats 4000000 in
theorem implAcceptNew_any (key : Int) (th : Bool) (v : Int) (x : Bool) (k y : Int) (sv : Value) (f : Prl) (root : Int) (w : World) (hv : Prs w sv f) :
    Calls Try.prog 15 #[.int .i64 key, .bool th, .int .i64 v, .agg #[.bool x, .int .i64 k, .int .i64 y, sv], .int .i64 root] w fun e w' => e = .returned (.bool (acN key th v x k y f root)) ∧ Below w.heap.size w w' := by
  have hC := fun w' h => implClimbNew_any key x k y sv f w' (hv.below (w' := w') h)
  obtain ⟨ad, c, rfl⟩ := hv.shape
  obtain ⟨W, hW⟩ : ∃ W, W = w.alloc (.cells #[.bool x, .int .i64 k, .int .i64 y, .slice ad f.length c] 31) := ⟨_, rfl⟩
  have HW : Hid (w.alloc (.cells #[.bool x, .int .i64 k, .int .i64 y, .slice ad f.length c] 31) = W) := hW.symm
  have hB : Below w.heap.size w W := by rw [hW]; exact one_new _
  have H : TlBlk W w.heap.size x k y (.slice ad f.length c) := by rw [hW]; exact tl_box w x k y _
  have HH : Hid (∀ w', Below W.heap.size W w' → TlBlk w' w.heap.size x k y (.slice ad f.length c)) := fun w' h => H.below h
  obtain ⟨c0, c1, c2, c3⟩ := H.cells
  unfold acN
  generalize clC key x k y f = q at *
  generalize clW key x k y f = r at *
  generalize f.length = n at *
  clear hW hv H
  by_cases hq : q = 0
  · subst hq
    by_cases hr : r = root
    · subst hr
      unfold sayB
      cases th
      · by_cases hv : v = 0
        · subst hv
          cases x
          · skip
            go_enter Try.func15, Try.ntmps15
            go_wp2_with fail
            rw [HW.out]
            refine (hC _ hB).mono ?_
            rintro e w1 ⟨rfl, hb1⟩
            have hb1a := hb1.alloc hb1.size (.cells #[.int .i64 0, .int .i64 r] 38)
            obtain ⟨e0, e1, e2, e3⟩ := (HH.out _ hb1a).cells
            have hB1 := below_after_of hB hb1a
            clear hC hb1 c0 c1 c2 c3
            go_wp2
            go_ret
            exact ⟨ret_bool (by simp), hB1⟩
          · skip
            go_enter Try.func15, Try.ntmps15
            go_wp2_with fail
            rw [HW.out]
            refine (hC _ hB).mono ?_
            rintro e w1 ⟨rfl, hb1⟩
            have hb1a := hb1.alloc hb1.size (.cells #[.int .i64 0, .int .i64 r] 38)
            obtain ⟨e0, e1, e2, e3⟩ := (HH.out _ hb1a).cells
            have hB1 := below_after_of hB hb1a
            clear hC hb1 c0 c1 c2 c3
            go_wp2
            go_ret
            exact ⟨ret_bool (by simp), hB1⟩
        · skip
          have hv1 : (v == 0) = false := by simpa using hv
          clear hv
          go_enter Try.func15, Try.ntmps15
          go_wp2_with fail
          rw [HW.out]
          refine (hC _ hB).mono ?_
          rintro e w1 ⟨rfl, hb1⟩
          have hb1a := hb1.alloc hb1.size (.cells #[.int .i64 0, .int .i64 r] 38)
          obtain ⟨e0, e1, e2, e3⟩ := (HH.out _ hb1a).cells
          have hB1 := below_after_of hB hb1a
          clear hC hb1 c0 c1 c2 c3
          go_wp2
          go_ret
          exact ⟨ret_bool (by simp), hB1⟩
      · cases x
        · skip
          go_enter Try.func15, Try.ntmps15
          go_wp2_with fail
          rw [HW.out]
          refine (hC _ hB).mono ?_
          rintro e w1 ⟨rfl, hb1⟩
          have hb1a := hb1.alloc hb1.size (.cells #[.int .i64 0, .int .i64 r] 38)
          obtain ⟨e0, e1, e2, e3⟩ := (HH.out _ hb1a).cells
          have hB1 := below_after_of hB hb1a
          clear hC hb1 c0 c1 c2 c3
          go_wp2
          go_ret
          exact ⟨ret_bool (by simp), hB1⟩
        · by_cases hk : k = key
          · subst hk
            have hkk : (k == k) = true := by simp
            by_cases hy : y = v
            · subst hy
              have hyy : (y == y) = true := by simp
              go_enter Try.func15, Try.ntmps15
              go_wp2_with fail
              rw [HW.out]
              refine (hC _ hB).mono ?_
              rintro e w1 ⟨rfl, hb1⟩
              have hb1a := hb1.alloc hb1.size (.cells #[.int .i64 0, .int .i64 r] 38)
              obtain ⟨e0, e1, e2, e3⟩ := (HH.out _ hb1a).cells
              have hB1 := below_after_of hB hb1a
              clear hC hb1 c0 c1 c2 c3
              go_wp2
              go_ret
              exact ⟨ret_bool (by simp), hB1⟩
            · skip
              have hy1 : (y == v) = false := by simpa using hy
              clear hy
              go_enter Try.func15, Try.ntmps15
              go_wp2_with fail
              rw [HW.out]
              refine (hC _ hB).mono ?_
              rintro e w1 ⟨rfl, hb1⟩
              have hb1a := hb1.alloc hb1.size (.cells #[.int .i64 0, .int .i64 r] 38)
              obtain ⟨e0, e1, e2, e3⟩ := (HH.out _ hb1a).cells
              have hB1 := below_after_of hB hb1a
              clear hC hb1 c0 c1 c2 c3
              go_wp2
              go_ret
              exact ⟨ret_bool (by simp), hB1⟩
          · skip
            have hk1 : (k == key) = false := by simpa using hk
            clear hk
            go_enter Try.func15, Try.ntmps15
            go_wp2_with fail
            rw [HW.out]
            refine (hC _ hB).mono ?_
            rintro e w1 ⟨rfl, hb1⟩
            have hb1a := hb1.alloc hb1.size (.cells #[.int .i64 0, .int .i64 r] 38)
            obtain ⟨e0, e1, e2, e3⟩ := (HH.out _ hb1a).cells
            have hB1 := below_after_of hB hb1a
            clear hC hb1 c0 c1 c2 c3
            go_wp2
            go_ret
            exact ⟨ret_bool (by simp), hB1⟩
    · skip
      have hr1 : (r != root) = true := by simpa using hr
      have hr2 : (r == root) = false := by simpa using hr
      clear hr
      go_enter Try.func15, Try.ntmps15
      go_wp2_with fail
      rw [HW.out]
      refine (hC _ hB).mono ?_
      rintro e w1 ⟨rfl, hb1⟩
      have hb1a := hb1.alloc hb1.size (.cells #[.int .i64 0, .int .i64 r] 38)
      obtain ⟨e0, e1, e2, e3⟩ := (HH.out _ hb1a).cells
      have hB1 := below_after_of hB hb1a
      clear hC hb1 c0 c1 c2 c3
      go_wp2
      go_ret
      exact ⟨ret_bool (by simp [hr2]), hB1⟩
  · skip
    have hq1 : (q != 0) = true := by simpa using hq
    have hq2 : (q == 0) = false := by simpa using hq
    clear hq
    go_enter Try.func15, Try.ntmps15
    go_wp2_with fail
    rw [HW.out]
    refine (hC _ hB).mono ?_
    rintro e w1 ⟨rfl, hb1⟩
    have hb1a := hb1.alloc hb1.size (.cells #[.int .i64 q, .int .i64 r] 38)
    obtain ⟨e0, e1, e2, e3⟩ := (HH.out _ hb1a).cells
    have hB1 := below_after_of hB hb1a
    clear hC hb1 c0 c1 c2 c3
    go_wp2
    go_ret
    exact ⟨ret_bool (by simp [hq2]), hB1⟩
set_option maxRecDepth 100000 in
set_option maxHeartbeats 4000000 in
theorem specAcceptNew_any (key : Int) (th : Bool) (v : Int) (x : Bool) (k y : Int) (sv : Value) (f : Prl) (root : Int) (w : World) (hv : Prs w sv f) :
    Calls Try.prog 16 #[.int .i64 key, .bool th, .int .i64 v, .agg #[.bool x, .int .i64 k, .int .i64 y, sv], .int .i64 root] w fun e w' => e = .returned (.bool (acN key th v x k y f root)) ∧ Below w.heap.size w w' := by
  have hC := fun w' h => specClimbNew_any key x k y sv f w' (hv.below (w' := w') h)
  obtain ⟨ad, c, rfl⟩ := hv.shape
  obtain ⟨W, hW⟩ : ∃ W, W = w.alloc (.cells #[.bool x, .int .i64 k, .int .i64 y, .slice ad f.length c] 31) := ⟨_, rfl⟩
  have HW : Hid (w.alloc (.cells #[.bool x, .int .i64 k, .int .i64 y, .slice ad f.length c] 31) = W) := hW.symm
  have hB : Below w.heap.size w W := by rw [hW]; exact one_new _
  have H : TlBlk W w.heap.size x k y (.slice ad f.length c) := by rw [hW]; exact tl_box w x k y _
  have HH : Hid (∀ w', Below W.heap.size W w' → TlBlk w' w.heap.size x k y (.slice ad f.length c)) := fun w' h => H.below h
  obtain ⟨c0, c1, c2, c3⟩ := H.cells
  unfold acN
  generalize clC key x k y f = q at *
  generalize clW key x k y f = r at *
  generalize f.length = n at *
  clear hW hv H
  have hS := fun w' h => l7Says_any key th v w.heap.size x k y _ w' (HH.out w' h)
  generalize sayB key th v x k y = z at *
  by_cases hq : q = 0
  · subst hq
    by_cases hr : r = root
    · subst hr
      have hrr : (r == r) = true := by simp
      go_enter Try.func16, Try.ntmps16
      go_wp2_with fail
      rw [HW.out]
      refine (hC _ hB).mono ?_
      rintro e w1 ⟨rfl, hb1⟩
      have hb1a := hb1.alloc hb1.size (.cells #[.int .i64 0, .int .i64 r] 38)
      obtain ⟨e0, e1, e2, e3⟩ := (HH.out _ hb1a).cells
      have hB1 := below_after_of hB hb1a
      clear hC hb1 c0 c1 c2 c3
      go_wp2_with fail
      refine (hS _ hb1a).mono ?_
      rintro e w2 ⟨rfl, hb2⟩
      have hB2 := below_after_of hB1 hb2
      clear hS hb2
      go_wp2
      go_ret
      exact ⟨ret_bool (by simp), hB2⟩
    · skip
      have hr1 : (r == root) = false := by simpa using hr
      clear hr
      go_enter Try.func16, Try.ntmps16
      go_wp2_with fail
      rw [HW.out]
      refine (hC _ hB).mono ?_
      rintro e w1 ⟨rfl, hb1⟩
      have hb1a := hb1.alloc hb1.size (.cells #[.int .i64 0, .int .i64 r] 38)
      obtain ⟨e0, e1, e2, e3⟩ := (HH.out _ hb1a).cells
      have hB1 := below_after_of hB hb1a
      clear hC hb1 c0 c1 c2 c3
      go_wp2
      go_ret
      exact ⟨ret_bool (by simp [hr1]), hB1⟩
  · skip
    have hq1 : (q == 0) = false := by simpa using hq
    clear hq
    go_enter Try.func16, Try.ntmps16
    go_wp2_with fail
    rw [HW.out]
    refine (hC _ hB).mono ?_
    rintro e w1 ⟨rfl, hb1⟩
    have hb1a := hb1.alloc hb1.size (.cells #[.int .i64 q, .int .i64 r] 38)
    obtain ⟨e0, e1, e2, e3⟩ := (HH.out _ hb1a).cells
    have hB1 := below_after_of hB hb1a
    clear hC hb1 c0 c1 c2 c3
    go_wp2
    go_ret
    exact ⟨ret_bool (by simp [hq1]), hB1⟩
end U
end Go.Proofs.Ytljbcpkjhnbpeaa

/- What is shown of a key is taken, and the contrary is not. -/
namespace Go.Proofs.Ytljbcpkjhnbpeaa
open Go.RowKit
namespace U
theorem thr_at {l : Prl} {k : Int} (h : thr l k = true) : (pAt l (low l k)).1 = k := by
  unfold thr at h
  simp at h
  exact h.2
theorem good_cl {l : Prl} {key : Int} {x : Bool} {k y : Int} {ws : Prl} {rt : Int} (hk : inB key 0 255 = true) (h : GoodT l key x k y ws rt) : clC key x k y ws = 0 ∧ clW key x k y ws = rt := by
  have h1 : clC key x k y ws = 0 := by rw [clC_in hk]; exact tlF_all h.ok
  exact ⟨h1, by rw [clW_ok h1]; exact h.root⟩
theorem good_says {l : Prl} {key : Int} {x : Bool} {k y : Int} {ws : Prl} {rt : Int} (h0 : slF l = 0) (h : GoodT l key x k y ws rt) :
    sayB key (fsC l key == 0) (fsV l key) x k y = true ∧ sayB key (fsC l key != 0) (fsV l key) x k y = false := by
  have hs := slF_ok h0
  rcases Bool.eq_false_or_eq_true (thr l key) with ht | ht
  · have hlt := thr_lt ht
    have hx : x = true := by rw [h.any, decide_eq_true_iff]; omega
    have hm := (h.near hx).2 _ (pAt_mem hlt) (thr_at ht)
    have e1 : k = key := by rw [← thr_at ht, ← hm]
    have e2 : y = (pAt l (low l key)).2 := by rw [← hm]
    have hc : fsC l key = 0 := by unfold fsC; rw [if_pos h0, if_pos ht]
    have hv : fsV l key = y := by unfold fsV; rw [if_pos ⟨h0, ht⟩, e2]
    rw [hc, hv, hx, e1]
    unfold sayB
    simp
  · have hc : fsC l key = 4 := by unfold fsC; rw [if_pos h0, ht]; rfl
    have hv : fsV l key = 0 := by unfold fsV; rw [ht]; simp
    rw [hc, hv]
    cases x
    · unfold sayB; simp
    · have hne : (k == key) = false := by
        have h1 : k ≠ key := fun e => by
          have h2 := (thr_iff hs.ris key).2 ⟨_, (h.near rfl).1, e⟩
          rw [ht] at h2
          cases h2
        simpa using h1
      have hne2 : (k != key) = true := by unfold bne; rw [hne]; rfl
      unfold sayB
      simp [hne, hne2]
theorem good_ac {l : Prl} {key : Int} {x : Bool} {k y : Int} {ws : Prl} {rt : Int} (h0 : slF l = 0) (hk : inB key 0 255 = true) (h : GoodT l key x k y ws rt) :
    acN key (fsC l key == 0) (fsV l key) x k y ws rt = true ∧ acN key (fsC l key != 0) (fsV l key) x k y ws rt = false := by
  have h1 := good_cl hk h
  have h2 := good_says h0 h
  unfold acN
  rw [h1.1, h1.2, h2.1, h2.2]
  simp
end U
end Go.Proofs.Ytljbcpkjhnbpeaa

/- Trails as the laws look at them: sizes, copies, compared. -/
namespace Go.Proofs.Ytljbcpkjhnbpeaa
open Go.RowKit
namespace U
theorem Try.infoFo7 : (Try.prog.info? 52).map (fun i => (i.zero, i.size, i.bytes)) = some (some (.agg #[.int .i64 0, .int .i64 0]), 2, 16) := by kernel_rfl
set_option maxHeartbeats 400000 in
theorem szForkS_any (a : Option Addr) (n c : Nat) (w : World) (hn : n ≤ maxLen) :
    Calls Try.prog 63 #[.slice a n c, .int .i64 1048576] w fun e w' => e = .returned (.int .i64 (if n ≤ 1048576 then (1048576 - n : Int) else -1)) ∧ w' = w := by
  unfold maxLen at hn
  by_cases h : n ≤ 1048576
  · rw [if_pos h]
    go_enter Try.func63, Try.ntmps63
    go_wp2
    go_ret
    exact ⟨rfl, rfl⟩
  · rw [if_neg h]
    go_enter Try.func63, Try.ntmps63
    go_wp2
    go_ret
    exact ⟨rfl, rfl⟩
set_option maxRecDepth 100000 in
theorem toFork_any (x y : Int) (w : World) :
    Calls Try.prog 100 #[.agg #[.int .i64 x, .int .i64 y]] w fun e w' => e = .returned (.agg #[.int .i64 x, .int .i64 y]) ∧ Below w.heap.size w w' := by
  go_enter Try.func100, Try.ntmps100
  go_wp2
  refine bodyPost_ret (v := .agg #[.int .i64 x, .int .i64 y]) (by simp [results, Try.results100, go_sem]) rfl ⟨rfl, ?_⟩
  exact (two_new _ _).alloc (by simp; omega) _
theorem made_forks {w1 w : World} {n : Nat} {l : Prl} (HN : n = l.length) (h : w1.ownsRow w.heap.size 52 2 (.slice (some ⟨w.heap.size, 0, none⟩) n n) n (madeCells #[Value.int .i64 0, Value.int .i64 0] (n * 2)).toList) :
    w1.ownsRow w.heap.size 52 2 (.slice (some ⟨w.heap.size, 0, none⟩) n n) n ((copied (fl l) 0).map (Value.int .i64)) := by
  rw [copied_zero, fl_len, ← HN, List.map_replicate, ← made_two]
  exact h
set_option maxRecDepth 100000 in
set_option maxHeartbeats 2000000 in
theorem toForkS_core (b off c n : Nat) (l : Prl) (w : World) (HN : Hid (n = l.length)) (hx : n ≤ 1048576) (hb : b < w.heap.size)
    (hc : ∀ j, j < n → w.cell? ⟨b, off + j * 2, none⟩ = some (.int .i64 (pAt l j).1) ∧ w.cell? ⟨b, off + j * 2 + 1, none⟩ = some (.int .i64 (pAt l j).2)) :
    Calls Try.prog 65 #[.slice (some ⟨b, off, none⟩) n c] w fun e w' => e = .returned (.slice (some ⟨w.heap.size, 0, none⟩) n n) ∧ Below w.heap.size w w' ∧ w'.ownsRow w.heap.size 52 2 (.slice (some ⟨w.heap.size, 0, none⟩) n n) n ((fl l).map (Value.int .i64)) := by
  obtain ⟨i0, hi, hz0, hz1, hz2⟩ := info_parts Try.infoFo7
  go_enter Try.func65, Try.ntmps65
  go_wp2_with (at_make; refine wpList_make_full _ rfl _ _ 29 rfl w.heap.size 52 i0 (.agg #[.int .i64 0, .int .i64 0]) 2 Try.underlying29 hi hz0 hz1 _ _ _ _ n rfl rfl rfl rfl (by rw [hz2]; omega) (by unfold maxLen; omega) (Nat.le_refl _) ?_)
  intro w1 hown1 hg1
  have own1 := made_forks HN.out hown1
  have hB1 : Below w.heap.size w w1 := (Below.refl _ _).grown hg1 (Nat.le_refl _) (fun k hk => by cases hk)
  clear hown1 hg1
  go_wp2
  go_loopw [4] (fun i wr => ∃ k : Nat, k ≤ n ∧ i = .int .i64 k ∧ Below w.heap.size w wr ∧ w.heap.size < wr.heap.size ∧ wr.ownsRow w.heap.size 52 2 (.slice (some ⟨w.heap.size, 0, none⟩) n n) n ((copied (fl l) (k * 2)).map (Value.int .i64))) (fun i _ => n - (intOf i).toNat)
  case atStart => exact ⟨0, Nat.zero_le _, rfl, hB1, (own1.lt _ rfl).2, own1⟩
  case round =>
    obtain ⟨k, hk, rfl, hB, hsz, ho⟩ := hrel
    by_cases hkn : k < n
    · have hki : (k : Int) < (n : Int) := by omega
      have hc1 := (hB.cell (p := ⟨b, off + k * 2, none⟩) hb).trans (hc k hkn).1
      have hc2 := (hB.cell (p := ⟨b, off + k * 2 + 1, none⟩) hb).trans (hc k hkn).2
      have hlk : k < l.length := by have := HN.out; omega
      have hts := two_set l hlk
      obtain ⟨x, hx⟩ : ∃ x, x = (pAt l k).1 := ⟨_, rfl⟩
      obtain ⟨y, hy⟩ : ∃ y, y = (pAt l k).2 := ⟨_, rfl⟩
      rw [← hx] at hc1 hts
      rw [← hy] at hc2 hts
      have HT : Hid (((copied (fl l) (k * 2)).set (k * 2) x).set (k * 2 + 1) y = copied (fl l) ((k + 1) * 2)) := hts
      have HB : Hid (Below w.heap.size w wr) := hB
      have HO : Hid (wr.ownsRow w.heap.size 52 2 (.slice (some ⟨w.heap.size, 0, none⟩) n n) n ((copied (fl l) (k * 2)).map (Value.int .i64))) := ho
      clear hx hy hc hts own1 hB1 ho hB
      go_wp2_with fail
      refine (toFork_any x y _).mono ?_
      rintro e w2 ⟨rfl, hb2⟩
      have ho2 := own_below HO.out hb2
      have f0 := ho2.frozenAt (k * 2)
      have f1 := ho2.frozenAt (k * 2 + 1)
      obtain ⟨z0, g0⟩ := own_some2 ho2 (j := k * 2) (by omega)
      obtain ⟨z1, g1⟩ := own_some2 ho2 (j := k * 2 + 1) (by omega)
      have s1 := (ho2.stored (k * 2) (.int .i64 x)).1
      have s2 := (s1.stored (k * 2 + 1) (.int .i64 y)).1
      rw [← List.map_set, ← List.map_set, HT.out] at s2
      have hB2 : Below w.heap.size w ((w2.setCell ⟨w.heap.size, k * 2, none⟩ (.int .i64 x)).setCell ⟨w.heap.size, k * 2 + 1, none⟩ (.int .i64 y)) := ((below_after_of HB.out hb2).setCell (Nat.le_refl _) _).setCell (Nat.le_refl _) _
      have hsz2 : w.heap.size < w2.heap.size := by have := hb2.size; omega
      have HB2 : Hid (Below w.heap.size w ((w2.setCell ⟨w.heap.size, k * 2, none⟩ (.int .i64 x)).setCell ⟨w.heap.size, k * 2 + 1, none⟩ (.int .i64 y))) := hB2
      have HS2 : Hid (((w2.setCell ⟨w.heap.size, k * 2, none⟩ (.int .i64 x)).setCell ⟨w.heap.size, k * 2 + 1, none⟩ (.int .i64 y)).ownsRow w.heap.size 52 2 (.slice (some ⟨w.heap.size, 0, none⟩) n n) n ((copied (fl l) ((k + 1) * 2)).map (Value.int .i64))) := s2
      clear ho2 s1 s2 hB2 hb2
      go_wp2
      go_roundw
      case rel => exact ⟨k + 1, by omega, by go_num, HB2.out, by simp; omega, HS2.out⟩
      case measure => simp [intOf]; omega
    · have hkn : k = n := by omega
      subst hkn
      have e1 : copied (fl l) (k * 2) = fl l := by rw [HN.out, ← fl_len]; exact copied_all _
      rw [e1] at ho
      go_wp2
      go_ret
      exact ⟨rfl, hB, ho⟩
set_option maxRecDepth 100000 in
set_option maxHeartbeats 1000000 in
theorem toForkS_any (v : Value) (l : Prl) (w : World) (hv : Prs w v l) (hx : l.length ≤ 1048576) :
    Calls Try.prog 65 #[v] w fun e w' => ∃ a c, e = .returned (.slice a l.length c) ∧ Below w.heap.size w w' ∧ w'.ownsRow w.heap.size 52 2 (.slice a l.length c) l.length ((fl l).map (Value.int .i64)) := by
  obtain ⟨a, c, rfl⟩ := hv.shape
  by_cases h0 : 0 < l.length
  · obtain ⟨_, b, off, rfl, hb, hc⟩ := hv.at h0
    refine (toForkS_core b off c l.length l w rfl hx hb hc).mono ?_
    rintro e w' ⟨rfl, hB, ho⟩
    exact ⟨_, _, rfl, hB, ho⟩
  · have e1 : l = [] := List.eq_nil_of_length_eq_zero (by omega)
    subst e1
    obtain ⟨i0, hi, hz0, hz1, hz2⟩ := info_parts Try.infoFo7
    simp only [List.length_nil]
    clear hv h0 hx
    go_enter Try.func65, Try.ntmps65
    go_wp2_with (at_make; refine wpList_make_full _ rfl _ _ 29 rfl w.heap.size 52 i0 (.agg #[.int .i64 0, .int .i64 0]) 2 Try.underlying29 hi hz0 hz1 _ _ _ _ 0 rfl rfl rfl rfl (by rw [hz2]; omega) (by unfold maxLen; omega) (Nat.le_refl _) ?_)
    intro w1 hown1 hg1
    have hB1 : Below w.heap.size w w1 := (Below.refl _ _).grown hg1 (Nat.le_refl _) (fun k hk => by cases hk)
    have HO : Hid (w1.ownsRow w.heap.size 52 2 (.slice (some ⟨w.heap.size, 0, none⟩) 0 0) 0 []) := by
      have := hown1
      rw [made_two] at this
      exact this
    clear hown1 hg1
    go_wp2
    refine wp_loop_rounds 1 ?_; rw [rounds_succ]
    go_wp2
    go_ret
    exact ⟨_, _, rfl, hB1, HO.out⟩
set_option maxRecDepth 100000 in
theorem eqFork7_any (x y x' y' : Int) (w : World) :
    Calls Try.prog 101 #[.agg #[.int .i64 x, .int .i64 y], .agg #[.int .i64 x', .int .i64 y']] w fun e w' => e = .returned (.bool (decide ((x, y) = (x', y')))) ∧ Below w.heap.size w w' := by
  by_cases h1 : x = x'
  · by_cases h2 : y = y'
    · subst h1 h2
      rw [decide_eq_true rfl]
      go_enter Try.func101, Try.ntmps101
      go_wp2
      go_ret
      exact ⟨rfl, two_new _ _⟩
    · subst h1
      have e1 : (y != y') = true := by simpa using h2
      rw [decide_eq_false (fun h => h2 (by cases h; rfl))]
      clear h2
      go_enter Try.func101, Try.ntmps101
      go_wp2
      go_ret
      exact ⟨rfl, two_new _ _⟩
  · have e1 : (x != x') = true := by simpa using h1
    rw [decide_eq_false (fun h => h1 (by cases h; rfl))]
    clear h1
    go_enter Try.func101, Try.ntmps101
    go_wp2
    go_ret
    exact ⟨rfl, two_new _ _⟩
set_option maxRecDepth 100000 in
set_option maxHeartbeats 2000000 in
theorem eqForkS7_core (b off c b' off' c' n : Nat) (l m : Prl) (w : World) (HL : Hid (l.length = n)) (HM : Hid (m.length = n)) (hn : n ≤ 1099511627776) (hb : b < w.heap.size) (hb' : b' < w.heap.size)
    (hc : ∀ j, j < n → w.cell? ⟨b, off + j * 2, none⟩ = some (.int .i64 (pAt l j).1) ∧ w.cell? ⟨b, off + j * 2 + 1, none⟩ = some (.int .i64 (pAt l j).2))
    (hc' : ∀ j, j < n → w.cell? ⟨b', off' + j * 2, none⟩ = some (.int .i64 (pAt m j).1) ∧ w.cell? ⟨b', off' + j * 2 + 1, none⟩ = some (.int .i64 (pAt m j).2)) :
    Calls Try.prog 67 #[.slice (some ⟨b, off, none⟩) n c, .slice (some ⟨b', off', none⟩) n c'] w fun e w' => e = .returned (.bool (decide (l = m))) ∧ Below w.heap.size w w' := by
  go_enter Try.func67, Try.ntmps67
  go_wp2
  go_loopw [5] (fun i wr => ∃ k : Nat, k ≤ n ∧ i = .int .i64 k ∧ Hid (AgreeP l m k) ∧ Below w.heap.size w wr) (fun i _ => n - (intOf i).toNat)
  case atStart => exact ⟨0, Nat.zero_le _, rfl, fun j hj => by omega, Below.refl _ _⟩
  case round =>
    obtain ⟨k, hk, rfl, hA, hB⟩ := hrel
    by_cases hkn : k < n
    · have hki : (k : Int) < (n : Int) := by omega
      have c1 := After.cell ((hB.cell (p := ⟨b, off + k * 2, none⟩) hb).trans (hc k hkn).1)
      have c2 := After.cell ((hB.cell (p := ⟨b, off + k * 2 + 1, none⟩) hb).trans (hc k hkn).2)
      have c3 := After.cell ((hB.cell (p := ⟨b', off' + k * 2, none⟩) hb').trans (hc' k hkn).1)
      have c4 := After.cell ((hB.cell (p := ⟨b', off' + k * 2 + 1, none⟩) hb').trans (hc' k hkn).2)
      have hne := After.ne wr
      have hE := fun w => eqFork7_any (pAt l k).1 (pAt l k).2 (pAt m k).1 (pAt m k).2 w
      have HL2 : Hid (l.length = n) := HL
      generalize hx : (pAt l k).1 = x at *
      generalize hy : (pAt l k).2 = y at *
      generalize hx' : (pAt m k).1 = x' at *
      generalize hy' : (pAt m k).2 = y' at *
      have HP : Hid (pAt l k = (x, y) ∧ pAt m k = (x', y')) := ⟨by rw [← hx, ← hy], by rw [← hx', ← hy']⟩
      obtain ⟨d, hd⟩ : ∃ d, d = decide ((x, y) = (x', y')) := ⟨_, rfl⟩
      have HD : Hid (d = decide ((x, y) = (x', y'))) := hd
      rw [← hd] at hE
      have HB : Hid (Below w.heap.size w wr) := hB
      clear hx hy hx' hy' hc hc' hd hB
      go_wp2
      refine wp_region_after (by kernel_rfl) (by kernel_rfl) ?_
      repeat (first | go_big_quiet_skip | (go_big_quiet_want; go_big_quiet_op; first | go_big_quiet_on | go_big_quiet_call (first | (go_at_call 101; refine (hE _).mono ?_; rintro e wq ⟨rfl, hbq⟩; exact ⟨rfl, after_mk (below_after_of (After.b _) hbq)⟩))))
      refine wpQuiet_nil ?_
      rintro _ ⟨n2, rfl⟩
      have hB2 : Below w.heap.size w n2.w := below_after_of HB.out n2.b
      cases d
      · have e1 : Hid (¬ l = m) := fun e => by
          have := HD.out.symm
          rw [decide_eq_false_iff_not] at this
          exact this (by rw [← HP.out.1, ← HP.out.2, e])
        go_wp2
        go_ret
        exact ⟨ret_bool (by symm; rw [decide_eq_false_iff_not]; exact e1.out), hB2⟩
      · go_wp2
        go_roundw
        case rel => exact ⟨k + 1, by omega, by go_num, hA.out.succ (by rw [HP.out.1, HP.out.2]; exact of_decide_eq_true HD.out.symm), hB2⟩
        case measure => simp [intOf]; omega
    · clear hc hc'
      go_wp2
      go_ret
      refine ⟨ret_bool ?_, hB⟩
      symm
      rw [decide_eq_true_iff]
      have hkn : k = n := by omega
      subst hkn
      have hxl := HL.out
      exact AgreeP.all (by rw [hxl]; exact hA.out) (HL.out.trans HM.out.symm)
set_option maxRecDepth 100000 in
set_option maxHeartbeats 1000000 in
theorem eqForkS7_any (v u : Value) (l m : Prl) (w : World) (hv : Prs w v l) (hu : Prs w u m) (hx : l.length ≤ 1099511627776) (hy : m.length ≤ 1099511627776) :
    Calls Try.prog 67 #[v, u] w fun e w' => e = .returned (.bool (decide (l = m))) ∧ Below w.heap.size w w' := by
  obtain ⟨a, c, rfl⟩ := hv.shape
  obtain ⟨a', c', rfl⟩ := hu.shape
  by_cases hl : l.length = m.length
  · by_cases h0 : 0 < l.length
    · obtain ⟨_, b, off, rfl, hb, hc⟩ := hv.at h0
      obtain ⟨_, b', off', rfl, hb', hc'⟩ := hu.at (by omega)
      rw [← hl] at hc' ⊢
      exact eqForkS7_core b off c b' off' c' l.length l m w rfl hl.symm hx hb hb' hc hc'
    · have e1 : l = [] := List.eq_nil_of_length_eq_zero (by omega)
      have e2 : m = [] := List.eq_nil_of_length_eq_zero (by omega)
      subst e1 e2
      simp only [List.length_nil]
      clear hv hu hl h0 hx hy
      go_enter Try.func67, Try.ntmps67
      go_wp2
      refine wp_loop_rounds 1 ?_; rw [rounds_succ]
      go_wp2
      go_ret
      exact ⟨rfl, Below.refl _ _⟩
  · have hne : decide (l = m) = false := by rw [decide_eq_false_iff_not]; intro e; exact hl (by rw [e])
    rw [hne]
    obtain ⟨n, hn⟩ : ∃ n, n = l.length := ⟨_, rfl⟩
    obtain ⟨k, hk⟩ : ∃ n, n = m.length := ⟨_, rfl⟩
    rw [← hn, ← hk] at hl ⊢
    have h1 : ((n : Int) != (k : Int)) = true := by simp; omega
    clear hv hu hl hne hn hk
    go_enter Try.func67, Try.ntmps67
    go_wp2
    go_ret
    exact ⟨rfl, Below.refl _ _⟩
set_option maxRecDepth 100000 in
theorem szTrail_any (x : Bool) (k y : Int) (a : Option Addr) (n c : Nat) (w : World) (hn : n ≤ maxLen) :
    Calls Try.prog 28 #[.agg #[.bool x, .int .i64 k, .int .i64 y, .slice a n c], .int .i64 1048576] w fun e w' => e = .returned (.int .i64 (if n ≤ 1048576 then (1048576 - n : Int) else -1)) ∧ Below w.heap.size w w' := by
  have hZ := fun w => szForkS_any a n c w hn
  by_cases h : n ≤ 1048576
  · rw [if_pos h] at hZ ⊢
    have h2 : ¬ ((1048576 - n : Int) < 0) := by omega
    generalize (1048576 - n : Int) = z at *
    go_enter Try.func28, Try.ntmps28
    go_wp2_with fail
    refine (hZ _).mono ?_
    rintro e w1 ⟨rfl, rfl⟩
    clear hZ
    go_wp2
    go_ret
    exact ⟨rfl, one_new _⟩
  · rw [if_neg h] at hZ ⊢
    go_enter Try.func28, Try.ntmps28
    go_wp2_with fail
    refine (hZ _).mono ?_
    rintro e w1 ⟨rfl, rfl⟩
    clear hZ
    go_wp2
    go_ret
    exact ⟨rfl, one_new _⟩
set_option maxRecDepth 100000 in
set_option maxHeartbeats 1000000 in
theorem eqTrail7_same (x : Bool) (k y : Int) (v u : Value) (l : Prl) (w : World) (hv : Prs w v l) (hu : Prs w u l) (hx : l.length ≤ 1099511627776) :
    Calls Try.prog 31 #[.agg #[.bool x, .int .i64 k, .int .i64 y, v], .agg #[.bool x, .int .i64 k, .int .i64 y, u]] w fun e w' => e = .returned (.bool true) ∧ Below w.heap.size w w' := by
  obtain ⟨a, c', rfl⟩ := hv.shape
  obtain ⟨a', d', rfl⟩ := hu.shape
  have hE := fun w' h => eqForkS7_any _ _ l l w' (hv.below h) (hu.below h) hx hx
  have hS := fun w => eqSlot_any k y k y w
  have hxx : (x != x) = false := by simp
  rw [decide_eq_true rfl] at hE hS
  generalize l.length = n at *
  clear hv hu
  obtain ⟨W, hW⟩ : ∃ W, W = (w.alloc (.cells #[.bool x, .int .i64 k, .int .i64 y, .slice a n c'] 31)).alloc (.cells #[.bool x, .int .i64 k, .int .i64 y, .slice a' n d'] 31) := ⟨_, rfl⟩
  have HW : Hid ((w.alloc (.cells #[.bool x, .int .i64 k, .int .i64 y, .slice a n c'] 31)).alloc (.cells #[.bool x, .int .i64 k, .int .i64 y, .slice a' n d'] 31) = W) := hW.symm
  have hB : Below w.heap.size w W := by rw [hW]; exact two_new _ _
  have H1 : W.heap[w.heap.size]? = some (.cells #[.bool x, .int .i64 k, .int .i64 y, .slice a n c'] 31) := by
    rw [hW]; exact ((one_new _).block w.heap.size (by simp)).trans (heap_alloc_new w _)
  have H2 : W.heap[w.heap.size + 1]? = some (.cells #[.bool x, .int .i64 k, .int .i64 y, .slice a' n d'] 31) := by
    have h := heap_alloc_new (w.alloc (.cells #[.bool x, .int .i64 k, .int .i64 y, .slice a n c'] 31)) (.cells #[.bool x, .int .i64 k, .int .i64 y, .slice a' n d'] 31)
    rw [World.size_alloc] at h
    rw [hW]
    exact h
  have hsz : w.heap.size + 1 < W.heap.size := (Array.getElem?_eq_some_iff.1 H2).1
  obtain ⟨p0, p1, p2, p3⟩ := TlBlk.cells H1
  obtain ⟨q0, q1, q2, q3⟩ := TlBlk.cells H2
  clear hW
  go_enter Try.func31, Try.ntmps31
  go_wp2_with fail
  rw [HW.out]
  refine (hS _).mono ?_
  rintro e w1 ⟨rfl, hb1⟩
  have hB1 := below_after_of hB hb1
  obtain ⟨r0, r1, r2, r3⟩ := TlBlk.cells ((hb1.block w.heap.size (by omega)).trans H1)
  obtain ⟨s0, s1, s2, s3⟩ := TlBlk.cells ((hb1.block (w.heap.size + 1) hsz).trans H2)
  clear hS H1 H2 p0 p1 p2 p3 q0 q1 q2 q3 hb1
  go_wp2_with fail
  refine (hE _ hB1).mono ?_
  rintro e w2 ⟨rfl, hb2⟩
  have hB2 := below_after_of hB1 hb2
  clear hE r0 r1 r2 r3 s0 s1 s2 s3
  go_wp2
  go_ret
  exact ⟨rfl, hB2⟩
theorem blk4L {w : World} {b : Nat} {x y z u : Value} {t : TypeId} (h : w.heap[b]? = some (.cells #[x, y, z, u] t (0, 0))) : (w.cell? ⟨b, 0, none⟩ = some x ∧ w.cell? ⟨b, 1, none⟩ = some y ∧ w.cell? ⟨b, 2, none⟩ = some z ∧ w.cell? ⟨b, 3, none⟩ = some u) ∧ (w.frozen? ⟨b, 0, none⟩ = false ∧ w.frozen? ⟨b, 1, none⟩ = false ∧ w.frozen? ⟨b, 2, none⟩ = false ∧ w.frozen? ⟨b, 3, none⟩ = false) := by
  refine ⟨⟨?_, ?_, ?_, ?_⟩, ⟨?_, ?_, ?_, ?_⟩⟩
  · unfold World.cell?; rw [h]; rfl
  · unfold World.cell?; rw [h]; rfl
  · unfold World.cell?; rw [h]; rfl
  · unfold World.cell?; rw [h]; rfl
  · unfold World.frozen?; rw [h]; rfl
  · unfold World.frozen?; rw [h]; rfl
  · unfold World.frozen?; rw [h]; rfl
  · unfold World.frozen?; rw [h]; rfl
theorem three_lieL (w : World) (o o' o'' : Obj) : (((w.alloc o).alloc o').alloc o'').heap[w.heap.size]? = some o ∧ (((w.alloc o).alloc o').alloc o'').heap[w.heap.size + 1]? = some o' ∧ (((w.alloc o).alloc o').alloc o'').heap[w.heap.size + 1 + 1]? = some o'' := by
  have h1 := heap_alloc_new (w.alloc o) o'
  have h2 := heap_alloc_new ((w.alloc o).alloc o') o''
  simp only [World.size_alloc] at h1 h2
  exact ⟨((two_new o' o'').block w.heap.size (by simp)).trans (heap_alloc_new w o), ((one_new o'').block (w.heap.size + 1) (by simp)).trans h1, h2⟩
set_option maxRecDepth 100000 in
set_option maxHeartbeats 2000000 in
theorem toTrail_any (x : Bool) (k y : Int) (v : Value) (l : Prl) (w : World) (hv : Prs w v l) (hx : l.length ≤ 1048576) :
    Calls Try.prog 29 #[.agg #[.bool x, .int .i64 k, .int .i64 y, v]] w fun e w' => ∃ a c, e = .returned (.agg #[.bool x, .int .i64 k, .int .i64 y, .slice a l.length c]) ∧ Below w.heap.size w w' ∧ w'.ownsRow w.heap.size 52 2 (.slice a l.length c) l.length ((fl l).map (Value.int .i64)) := by
  have hT := fun w' h => toForkS_any v l w' (hv.below (w' := w') h) hx
  have hS := fun w => toSlot_any k y w
  obtain ⟨av, cv, rfl⟩ := hv.shape
  obtain ⟨W, hW⟩ : ∃ W, W = ((w.alloc (.cells #[.bool x, .int .i64 k, .int .i64 y, .slice av l.length cv] 56)).alloc (.cells #[.bool false, .int .i64 0, .int .i64 0, .slice none 0 0] 31)).alloc (.cells #[.bool x, .int .i64 0, .int .i64 0, .slice none 0 0] 31) := ⟨_, rfl⟩
  have HW : Hid (((w.alloc (.cells #[.bool x, .int .i64 k, .int .i64 y, .slice av l.length cv] 56)).alloc (.cells #[.bool false, .int .i64 0, .int .i64 0, .slice none 0 0] 31)).alloc (.cells #[.bool x, .int .i64 0, .int .i64 0, .slice none 0 0] 31) = W) := hW.symm
  have hB : Below w.heap.size w W := by rw [hW]; exact ((one_new _).alloc (one_new _).size _).alloc ((one_new _).alloc (one_new _).size _).size _
  have hLL : Hid (W.heap[w.heap.size]? = some (.cells #[.bool x, .int .i64 k, .int .i64 y, .slice av l.length cv] 56) ∧ W.heap[w.heap.size + 1]? = some (.cells #[.bool false, .int .i64 0, .int .i64 0, .slice none 0 0] 31) ∧ W.heap[w.heap.size + 1 + 1]? = some (.cells #[.bool x, .int .i64 0, .int .i64 0, .slice none 0 0] 31)) := (by rw [hW]; exact three_lieL w _ _ _ : _ ∧ _)
  obtain ⟨H0, H1, H2⟩ := hLL.out
  obtain ⟨⟨a0, a1, a2, a3⟩, -⟩ := blk4L H0
  obtain ⟨⟨c0, c1, c2, c3⟩, f0, f1, f2, f3⟩ := blk4L H2
  have hz : Hid (w.heap.size + 1 + 1 < W.heap.size) := (Array.getElem?_eq_some_iff.1 H2).1
  generalize hm : l.length = n at *
  have HM : Hid (l.length = n) := hm
  clear hW hv hm H0 H1 H2
  go_enter Try.func29, Try.ntmps29
  go_wp2_with fail
  rw [HW.out]
  refine (hS _).mono ?_
  rintro e w1 ⟨rfl, hb1⟩
  have hB1 := below_after_of hB hb1
  have G0 := (hb1.block w.heap.size (by have := hz.out; omega)).trans hLL.out.1
  have G1 := (hb1.block (w.heap.size + 1) (by have := hz.out; omega)).trans hLL.out.2.1
  have G2 := (hb1.block (w.heap.size + 1 + 1) hz.out).trans hLL.out.2.2
  have hz1 : Hid (w.heap.size + 1 + 1 < w1.heap.size) := (Array.getElem?_eq_some_iff.1 G2).1
  obtain ⟨⟨b0, b1, b2, b3⟩, -⟩ := blk4L G0
  obtain ⟨⟨d0, d1, d2, d3⟩, g0, g1, g2, g3⟩ := blk4L G2
  have hB2 : Below w.heap.size w ((w1.setCell ⟨w.heap.size + 1 + 1, 1, none⟩ (.int .i64 k)).setCell ⟨w.heap.size + 1 + 1, 2, none⟩ (.int .i64 y)) := (hB1.setCell (by show w.heap.size ≤ w.heap.size + 1 + 1; omega) _).setCell (by show w.heap.size ≤ w.heap.size + 1 + 1; omega) _
  have K1 : ((w1.setCell ⟨w.heap.size + 1 + 1, 1, none⟩ (.int .i64 k)).setCell ⟨w.heap.size + 1 + 1, 2, none⟩ (.int .i64 y)).heap[w.heap.size + 1]? = some (.cells #[.bool false, .int .i64 0, .int .i64 0, .slice none 0 0] 31) := by
    rw [heap_setCell_other _ _ _ _ (show w.heap.size + 1 ≠ w.heap.size + 1 + 1 by omega), heap_setCell_other _ _ _ _ (show w.heap.size + 1 ≠ w.heap.size + 1 + 1 by omega)]; exact G1
  have K2 : ((w1.setCell ⟨w.heap.size + 1 + 1, 1, none⟩ (.int .i64 k)).setCell ⟨w.heap.size + 1 + 1, 2, none⟩ (.int .i64 y)).heap[w.heap.size + 1 + 1]? = some (.cells #[.bool x, .int .i64 k, .int .i64 y, .slice none 0 0] 31) :=
    heap_setCell_same _ _ 2 _ _ _ (heap_setCell_same _ _ 1 _ _ _ G2)
  clear hS hb1 hB hB1 G0 G1 G2 a0 a1 a2 a3 c0 c1 c2 c3 f0 f1 f2 f3
  go_wp2_with fail
  generalize ((w1.setCell ⟨w.heap.size + 1 + 1, 1, none⟩ (.int .i64 k)).setCell ⟨w.heap.size + 1 + 1, 2, none⟩ (.int .i64 y)) = w2 at *
  refine (hT _ hB2).mono ?_
  rintro e w3 ⟨a3, c3, rfl, hb3, own3⟩
  have hB3 := below_after_of hB2 hb3
  have hz2 : w.heap.size + 1 + 1 < w2.heap.size := (Array.getElem?_eq_some_iff.1 K2).1
  obtain ⟨⟨m0, m1, m2, m3⟩, n0, n1, n2, n3⟩ := blk4L ((hb3.block (w.heap.size + 1) (by omega)).trans K1)
  obtain ⟨⟨p0, p1, p2, p3⟩, q0, q1, q2, q3⟩ := blk4L ((hb3.block (w.heap.size + 1 + 1) hz2).trans K2)
  have HOW : Hid (w3.ownsRow w2.heap.size 52 2 (.slice a3 n c3) n ((fl l).map (Value.int .i64))) := own3
  have HZ : Hid (w.heap.size + 1 + 1 < w2.heap.size) := hz2
  have HB3 : Hid (Below w.heap.size w w3) := hB3
  clear hT hB2 hb3 hB3 own3 K1 K2 b0 b1 b2 b3 d0 d1 d2 d3 g0 g1 g2 g3 hz2
  go_wp2
  refine bodyPost_ret (v := .agg #[.bool x, .int .i64 k, .int .i64 y, .slice a3 n c3]) (by simp [results, Try.results29, go_sem, *]) rfl ⟨a3, c3, rfl, ?_, ?_⟩
  · exact ((((HB3.out.setCell (by show w.heap.size ≤ w.heap.size + 1 + 1; omega) _).setCell (by show w.heap.size ≤ w.heap.size + 1; omega) _).setCell (by show w.heap.size ≤ w.heap.size + 1; omega) _).setCell (by show w.heap.size ≤ w.heap.size + 1; omega) _).setCell (by show w.heap.size ≤ w.heap.size + 1; omega) _
  · have h1 : w.heap.size + 1 < w2.heap.size := by have := HZ.out; omega
    exact own_mono (ownsRow_setCell_below (ownsRow_setCell_below (ownsRow_setCell_below (ownsRow_setCell_below (ownsRow_setCell_below HOW.out HZ.out _) h1 _) h1 _) h1 _) h1 _) (by have := HZ.out; omega)
end U
end Go.Proofs.Ytljbcpkjhnbpeaa

/- Two trails compared, as the program and as the model do it. -/
namespace Go.Proofs.Ytljbcpkjhnbpeaa
open Go.RowKit
namespace U
theorem cellB {W wr : World} {b i : Nat} {v : Value} (h : Below W.heap.size W wr) (hc : W.cell? ⟨b, i, none⟩ = some v) : wr.cell? ⟨b, i, none⟩ = some v := After.cell hc ⟨wr, h⟩
set_option maxRecDepth 100000 in
set_option maxHeartbeats 2000000 in
theorem equalForks_core (b off c b' off' c' n : Nat) (l m : Prl) (w : World) (HL : Hid (l.length = n)) (HM : Hid (m.length = n)) (hn : n ≤ 1099511627776) (hb : b < w.heap.size) (hb' : b' < w.heap.size)
    (hc : ∀ j, j < n → w.cell? ⟨b, off + j * 2, none⟩ = some (.int .i64 (pAt l j).1) ∧ w.cell? ⟨b, off + j * 2 + 1, none⟩ = some (.int .i64 (pAt l j).2))
    (hc' : ∀ j, j < n → w.cell? ⟨b', off' + j * 2, none⟩ = some (.int .i64 (pAt m j).1) ∧ w.cell? ⟨b', off' + j * 2 + 1, none⟩ = some (.int .i64 (pAt m j).2)) :
    Calls Try.prog 59 #[.slice (some ⟨b, off, none⟩) n c, .slice (some ⟨b', off', none⟩) n c'] w fun e w' => e = .returned (.bool (decide (l = m))) ∧ Below w.heap.size w w' := by
  go_enter Try.func59, Try.ntmps59
  go_wp2
  go_loopw [13] (fun i wr => ∃ k : Nat, k ≤ n ∧ i = .int .i64 k ∧ Hid (AgreeP l m k) ∧ Below w.heap.size w wr) (fun i _ => n - (intOf i).toNat)
  case atStart => exact ⟨0, Nat.zero_le _, rfl, fun j hj => by omega, Below.refl _ _⟩
  case round =>
    obtain ⟨k, hk, rfl, hA, hB⟩ := hrel
    by_cases hkn : k < n
    · have hki : (k : Int) < (n : Int) := by omega
      have c1 := After.cell ((hB.cell (p := ⟨b, off + k * 2, none⟩) hb).trans (hc k hkn).1)
      have c2 := After.cell ((hB.cell (p := ⟨b, off + k * 2 + 1, none⟩) hb).trans (hc k hkn).2)
      have c3 := After.cell ((hB.cell (p := ⟨b', off' + k * 2, none⟩) hb').trans (hc' k hkn).1)
      have c4 := After.cell ((hB.cell (p := ⟨b', off' + k * 2 + 1, none⟩) hb').trans (hc' k hkn).2)
      have hne := After.ne wr
      generalize hx : (pAt l k).1 = x at *
      generalize hy : (pAt l k).2 = y at *
      generalize hx' : (pAt m k).1 = x' at *
      generalize hy' : (pAt m k).2 = y' at *
      have HP : Hid (pAt l k = (x, y) ∧ pAt m k = (x', y')) := ⟨by rw [← hx, ← hy], by rw [← hx', ← hy']⟩
      have HB : Hid (Below w.heap.size w wr) := hB
      clear hx hy hx' hy' hc hc' hB
      by_cases h : (x, y) = (x', y')
      · cases h
        go_wp2
        refine wp_region_after (by kernel_rfl) (by kernel_rfl) ?_
        repeat (first | go_big_quiet_skip | (go_big_quiet_want; go_big_quiet_op; first | go_big_quiet_on))
        refine wpQuiet_nil ?_
        rintro _ ⟨n2, rfl⟩
        have hB2 : Below w.heap.size w n2.w := below_after_of HB.out n2.b
        go_wp2
        go_roundw
        case rel => exact ⟨k + 1, by omega, by go_num, hA.out.succ (by rw [HP.out.1, HP.out.2]), hB2⟩
        case measure => simp [intOf]; omega
      · have e1 : Hid (¬ l = m) := fun e => h (by rw [← HP.out.1, ← HP.out.2, e])
        by_cases h1 : x = x'
        · subst h1
          have h2 : (y == y') = false := by
            have : y ≠ y' := fun e => h (by rw [e])
            simpa using this
          clear h
          go_wp2
          refine wp_region_after (by kernel_rfl) (by kernel_rfl) ?_
          repeat (first | go_big_quiet_skip | (go_big_quiet_want; go_big_quiet_op; first | go_big_quiet_on))
          refine wpQuiet_nil ?_
          rintro _ ⟨n2, rfl⟩
          have hB2 : Below w.heap.size w n2.w := below_after_of HB.out n2.b
          go_wp2
          go_ret
          exact ⟨ret_bool (by symm; rw [decide_eq_false_iff_not]; exact e1.out), hB2⟩
        · have h2 : (x == x') = false := by simpa using h1
          clear h h1
          go_wp2
          refine wp_region_after (by kernel_rfl) (by kernel_rfl) ?_
          repeat (first | go_big_quiet_skip | (go_big_quiet_want; go_big_quiet_op; first | go_big_quiet_on))
          refine wpQuiet_nil ?_
          rintro _ ⟨n2, rfl⟩
          have hB2 : Below w.heap.size w n2.w := below_after_of HB.out n2.b
          go_wp2
          go_ret
          exact ⟨ret_bool (by symm; rw [decide_eq_false_iff_not]; exact e1.out), hB2⟩
    · clear hc hc'
      go_wp2
      go_ret
      refine ⟨ret_bool ?_, hB⟩
      symm
      rw [decide_eq_true_iff]
      have hkn : k = n := by omega
      subst hkn
      have hxl := HL.out
      exact AgreeP.all (by rw [hxl]; exact hA.out) (HL.out.trans HM.out.symm)
set_option maxRecDepth 100000 in
set_option maxHeartbeats 1000000 in
theorem equalForks_any (v u : Value) (l m : Prl) (w : World) (hv : Prs w v l) (hu : Prs w u m) (hx : l.length ≤ 1099511627776) (hy : m.length ≤ 1099511627776) :
    Calls Try.prog 59 #[v, u] w fun e w' => e = .returned (.bool (decide (l = m))) ∧ Below w.heap.size w w' := by
  obtain ⟨a, c, rfl⟩ := hv.shape
  obtain ⟨a', c', rfl⟩ := hu.shape
  by_cases hl : l.length = m.length
  · by_cases h0 : 0 < l.length
    · obtain ⟨_, b, off, rfl, hb, hc⟩ := hv.at h0
      obtain ⟨_, b', off', rfl, hb', hc'⟩ := hu.at (by omega)
      rw [← hl] at hc' ⊢
      exact equalForks_core b off c b' off' c' l.length l m w rfl hl.symm hx hb hb' hc hc'
    · have e1 : l = [] := List.eq_nil_of_length_eq_zero (by omega)
      have e2 : m = [] := List.eq_nil_of_length_eq_zero (by omega)
      subst e1 e2
      simp only [List.length_nil]
      clear hv hu hl h0 hx hy
      go_enter Try.func59, Try.ntmps59
      go_wp2
      refine wp_loop_rounds 1 ?_; rw [rounds_succ]
      go_wp2
      go_ret
      exact ⟨rfl, Below.refl _ _⟩
  · have hne : decide (l = m) = false := by rw [decide_eq_false_iff_not]; intro e; exact hl (by rw [e])
    rw [hne]
    obtain ⟨n, hn⟩ : ∃ n, n = l.length := ⟨_, rfl⟩
    obtain ⟨k, hk⟩ : ∃ n, n = m.length := ⟨_, rfl⟩
    rw [← hn, ← hk] at hl ⊢
    have h1 : ((n : Int) != (k : Int)) = true := by simp; omega
    clear hv hu hl hne hn hk
    go_enter Try.func59, Try.ntmps59
    go_wp2
    go_ret
    exact ⟨rfl, Below.refl _ _⟩
/-- Are two trails the same? -/
def stB (x : Bool) (k y : Int) (l : Prl) (x' : Bool) (k' y' : Int) (m : Prl) : Bool := decide (x = x' ∧ k = k' ∧ y = y' ∧ l = m)
theorem stB_x {x x' : Bool} {k y k' y' : Int} {l m : Prl} (h : x ≠ x') : stB x k y l x' k' y' m = false := decide_eq_false (fun e => h e.1)
theorem stB_k {x x' : Bool} {k y k' y' : Int} {l m : Prl} (h : ¬ k = k') : stB x k y l x' k' y' m = false := decide_eq_false (fun e => h e.2.1)
theorem stB_y {x x' : Bool} {k y k' y' : Int} {l m : Prl} (h : ¬ y = y') : stB x k y l x' k' y' m = false := decide_eq_false (fun e => h e.2.2.1)
theorem stB_l {x : Bool} {k y : Int} {l m : Prl} : stB x k y l x k y m = decide (l = m) := by unfold stB; simp
set_option maxRecDepth 100000 in
set_option maxHeartbeats 2000000 in
theorem implSameTrails_any (x : Bool) (k y : Int) (v : Value) (l : Prl) (x' : Bool) (k' y' : Int) (u : Value) (m : Prl) (w : World) (hv : Prs w v l) (hu : Prs w u m) (hx : l.length ≤ 1099511627776) (hy : m.length ≤ 1099511627776) :
    Calls Try.prog 21 #[.agg #[.bool x, .int .i64 k, .int .i64 y, v], .agg #[.bool x', .int .i64 k', .int .i64 y', u]] w fun e w' => e = .returned (.bool (stB x k y l x' k' y' m)) ∧ Below w.heap.size w w' := by
  have hE := fun w' h => equalForks_any v u l m w' (hv.below (w' := w') h) (hu.below h) hx hy
  obtain ⟨a, c, rfl⟩ := hv.shape
  obtain ⟨a', c', rfl⟩ := hu.shape
  obtain ⟨W, hW⟩ : ∃ W, W = (w.alloc (.cells #[.bool x, .int .i64 k, .int .i64 y, .slice a l.length c] 31)).alloc (.cells #[.bool x', .int .i64 k', .int .i64 y', .slice a' m.length c'] 31) := ⟨_, rfl⟩
  have HW : Hid ((w.alloc (.cells #[.bool x, .int .i64 k, .int .i64 y, .slice a l.length c] 31)).alloc (.cells #[.bool x', .int .i64 k', .int .i64 y', .slice a' m.length c'] 31) = W) := hW.symm
  have hB : Below w.heap.size w W := by rw [hW]; exact two_new _ _
  have H1 : TlBlk W w.heap.size x k y (.slice a l.length c) := by rw [hW]; exact (tl_box w x k y _).below (one_new _)
  have H2 : TlBlk W (w.heap.size + 1) x' k' y' (.slice a' m.length c') := by
    have h := tl_box (w.alloc (.cells #[.bool x, .int .i64 k, .int .i64 y, .slice a l.length c] 31)) x' k' y' (.slice a' m.length c')
    rw [World.size_alloc] at h
    rw [hW]
    exact h
  have hp1 := H1.lt
  have hp2 := H2.lt
  obtain ⟨p0, p1, p2, p3⟩ := H1.cells
  obtain ⟨q0, q1, q2, q3⟩ := H2.cells
  by_cases h1 : x = x'
  · subst h1
    have hxx : (x == x) = true := by simp
    by_cases h2 : k = k'
    · subst h2
      by_cases h3 : y = y'
      · subst h3
        rw [stB_l]
        generalize decide (l = m) = q at *
        generalize l.length = n at *
        generalize m.length = n' at *
        clear hv hu H1 H2 hW
        go_enter Try.func21, Try.ntmps21
        go_wp2_with fail
        rw [HW.out]
        refine (hE _ hB).mono ?_
        rintro e w1 ⟨rfl, hb1⟩
        have hB1 := below_after_of hB hb1
        clear hE hb1
        go_wp2
        go_ret
        exact ⟨rfl, hB1⟩
      · rw [stB_y h3]
        have h4 : (y == y') = false := by simpa using h3
        generalize l.length = n at *
        generalize m.length = n' at *
        clear hv hu H1 H2 hW hE h3
        go_enter Try.func21, Try.ntmps21
        go_wp2
        go_ret
        exact ⟨rfl, two_new _ _⟩
    · rw [stB_k h2]
      have h4 : (k == k') = false := by simpa using h2
      generalize l.length = n at *
      generalize m.length = n' at *
      clear hv hu H1 H2 hW hE h2
      go_enter Try.func21, Try.ntmps21
      go_wp2
      go_ret
      exact ⟨rfl, two_new _ _⟩
  · rw [stB_x h1]
    have h4 : (x == x') = false := by simpa using h1
    generalize l.length = n at *
    generalize m.length = n' at *
    clear hv hu H1 H2 hW hE h1
    go_enter Try.func21, Try.ntmps21
    go_wp2
    go_ret
    exact ⟨rfl, two_new _ _⟩
set_option maxRecDepth 100000 in
set_option maxHeartbeats 4000000 in
theorem specSameTrails_loop (x : Bool) (k y : Int) (a a' : Option Addr) (n c c' : Nat) (l m : Prl) (w : World) (hv : Prs w (.slice a n c) l) (hu : Prs w (.slice a' n c') m) (HL : Hid (l.length = n)) (HM : Hid (m.length = n)) (hn : n ≤ 1099511627776) :
    Calls Try.prog 27 #[.agg #[.bool x, .int .i64 k, .int .i64 y, .slice a n c], .agg #[.bool x, .int .i64 k, .int .i64 y, .slice a' n c']] w fun e w' => e = .returned (.bool (decide (l = m))) ∧ Below w.heap.size w w' := by
  obtain ⟨W, hW⟩ : ∃ W, W = (w.alloc (.cells #[.bool x, .int .i64 k, .int .i64 y, .slice a n c] 31)).alloc (.cells #[.bool x, .int .i64 k, .int .i64 y, .slice a' n c'] 31) := ⟨_, rfl⟩
  have HW : Hid ((w.alloc (.cells #[.bool x, .int .i64 k, .int .i64 y, .slice a n c] 31)).alloc (.cells #[.bool x, .int .i64 k, .int .i64 y, .slice a' n c'] 31) = W) := hW.symm
  have hB : Below w.heap.size w W := by rw [hW]; exact two_new _ _
  have H1 : TlBlk W w.heap.size x k y (.slice a n c) := by rw [hW]; exact (tl_box w x k y _).below (one_new _)
  have H2 : TlBlk W (w.heap.size + 1) x k y (.slice a' n c') := by
    have h := tl_box (w.alloc (.cells #[.bool x, .int .i64 k, .int .i64 y, .slice a n c] 31)) x k y (.slice a' n c')
    rw [World.size_alloc] at h
    rw [hW]
    exact h
  have hp1 := H1.lt
  have hp2 := H2.lt
  obtain ⟨p0, p1, p2, p3⟩ := H1.cells
  obtain ⟨q0, q1, q2, q3⟩ := H2.cells
  have HV : Hid (0 < n → ∃ b off b' off', a = some ⟨b, off, none⟩ ∧ a' = some ⟨b', off', none⟩ ∧ (∀ j, j < n → W.cell? ⟨b, off + j * 2, none⟩ = some (.int .i64 (pAt l j).1) ∧ W.cell? ⟨b, off + j * 2 + 1, none⟩ = some (.int .i64 (pAt l j).2)) ∧ (∀ j, j < n → W.cell? ⟨b', off' + j * 2, none⟩ = some (.int .i64 (pAt m j).1) ∧ W.cell? ⟨b', off' + j * 2 + 1, none⟩ = some (.int .i64 (pAt m j).2))) := (fun h0 => by
    have e1 := HL.out
    have e2 := HM.out
    obtain ⟨-, b, off, e, hb, hc⟩ := hv.at (by omega)
    obtain ⟨-, b', off', e', hb', hc'⟩ := hu.at (by omega)
    exact ⟨b, off, b', off', e, e', fun j hj => ⟨(hB.cell (p := ⟨b, off + j * 2, none⟩) hb).trans (hc j (by omega)).1, (hB.cell (p := ⟨b, off + j * 2 + 1, none⟩) hb).trans (hc j (by omega)).2⟩, fun j hj => ⟨(hB.cell (p := ⟨b', off' + j * 2, none⟩) hb').trans (hc' j (by omega)).1, (hB.cell (p := ⟨b', off' + j * 2 + 1, none⟩) hb').trans (hc' j (by omega)).2⟩⟩ : 0 < n → _)
  have hxx : (x != x) = false := by simp
  have HH1 : Hid (TlBlk W w.heap.size x k y (.slice a n c)) := H1
  have HH2 : Hid (TlBlk W (w.heap.size + 1) x k y (.slice a' n c')) := H2
  clear hv hu H1 H2 hW
  go_enter Try.func27, Try.ntmps27
  go_wp2
  rw [HW.out]
  go_loopw [5] (fun i wr => ∃ j : Nat, j ≤ n ∧ i = .int .i64 j ∧ Hid (AgreeP l m j) ∧ Hid (Below W.heap.size W wr)) (fun i _ => n - (intOf i).toNat)
  case atStart => exact ⟨0, Nat.zero_le _, rfl, fun j hj => by omega, Below.refl _ _⟩
  case round =>
    obtain ⟨j, hj, rfl, hA, hBr⟩ := hrel
    obtain ⟨r0, r1, r2, r3⟩ := (HH1.out.below hBr.out).cells
    obtain ⟨s0, s1, s2, s3⟩ := (HH2.out.below hBr.out).cells
    by_cases hjn : j < n
    · have hji : (j : Int) < (n : Int) := by omega
      obtain ⟨b, off, b', off', rfl, rfl, hc, hc'⟩ := HV.out (by omega)
      have c1 := After.cell (cellB hBr.out (hc j hjn).1)
      have c2 := After.cell (cellB hBr.out (hc j hjn).2)
      have c3 := After.cell (cellB hBr.out (hc' j hjn).1)
      have c4 := After.cell (cellB hBr.out (hc' j hjn).2)
      have m3 := After.cell r3
      have m4 := After.cell s3
      have hne := After.ne wr
      generalize hx : (pAt l j).1 = px at *
      generalize hy : (pAt l j).2 = py at *
      generalize hx' : (pAt m j).1 = qx at *
      generalize hy' : (pAt m j).2 = qy at *
      have HP : Hid (pAt l j = (px, py) ∧ pAt m j = (qx, qy)) := ⟨by rw [← hx, ← hy], by rw [← hx', ← hy']⟩
      clear hx hy hx' hy' hc hc' HV
      by_cases h : (px, py) = (qx, qy)
      · cases h
        go_wp2
        refine wp_region_after (by kernel_rfl) (by kernel_rfl) ?_
        repeat (first | go_big_quiet_skip | (go_big_quiet_want; go_big_quiet_op; first | go_big_quiet_on))
        refine wpQuiet_nil ?_
        rintro _ ⟨n2, rfl⟩
        have hB2 : Hid (Below W.heap.size W n2.w) := below_after_of hBr.out n2.b
        go_wp2
        go_roundw
        case rel => exact ⟨j + 1, by omega, by go_num, hA.out.succ (by rw [HP.out.1, HP.out.2]), hB2⟩
        case measure => simp [intOf]; omega
      · have e1 : Hid (¬ l = m) := fun e => h (by rw [← HP.out.1, ← HP.out.2, e])
        have HG : Hid (Below w.heap.size w wr) := below_after_of hB hBr.out
        by_cases h1 : px = qx
        · subst h1
          have h2 : (py == qy) = false := by
            have : py ≠ qy := fun e => h (by rw [e])
            simpa using this
          clear h
          go_wp2
          refine wp_region_after (by kernel_rfl) (by kernel_rfl) ?_
          repeat (first | go_big_quiet_skip | (go_big_quiet_want; go_big_quiet_op; first | go_big_quiet_on))
          refine wpQuiet_nil ?_
          rintro _ ⟨n2, rfl⟩
          have hB2 : Below w.heap.size w n2.w := below_after_of HG.out n2.b
          go_wp2
          go_ret
          exact ⟨ret_bool (by symm; rw [decide_eq_false_iff_not]; exact e1.out), hB2⟩
        · have h2 : (px == qx) = false := by simpa using h1
          clear h h1
          go_wp2
          refine wp_region_after (by kernel_rfl) (by kernel_rfl) ?_
          repeat (first | go_big_quiet_skip | (go_big_quiet_want; go_big_quiet_op; first | go_big_quiet_on))
          refine wpQuiet_nil ?_
          rintro _ ⟨n2, rfl⟩
          have hB2 : Below w.heap.size w n2.w := below_after_of HG.out n2.b
          go_wp2
          go_ret
          exact ⟨ret_bool (by symm; rw [decide_eq_false_iff_not]; exact e1.out), hB2⟩
    · have hBE := below_after_of hB hBr.out
      go_wp2
      go_ret
      refine ⟨ret_bool ?_, hBE⟩
      symm
      rw [decide_eq_true_iff]
      have hjn : j = n := by omega
      subst hjn
      have hxl := HL.out
      exact AgreeP.all (by rw [hxl]; exact hA.out) (HL.out.trans HM.out.symm)
set_option maxRecDepth 100000 in
theorem specSameTrails_x (x : Bool) (k y : Int) (v : Value) (x' : Bool) (k' y' : Int) (u : Value) (n n' c c' : Nat) (a a' : Option Addr) (w : World) (ev : v = .slice a n c) (eu : u = .slice a' n' c') (h : x ≠ x') :
    Calls Try.prog 27 #[.agg #[.bool x, .int .i64 k, .int .i64 y, v], .agg #[.bool x', .int .i64 k', .int .i64 y', u]] w fun e w' => e = .returned (.bool false) ∧ Below w.heap.size w w' := by
  subst ev eu
  rcases x <;> rcases x' <;> first | exact absurd rfl h | skip
  · clear h
    go_enter Try.func27, Try.ntmps27
    go_wp2
    go_ret
    exact ⟨rfl, two_new _ _⟩
  · clear h
    go_enter Try.func27, Try.ntmps27
    go_wp2
    go_ret
    exact ⟨rfl, two_new _ _⟩
set_option maxRecDepth 100000 in
theorem specSameTrails_k (x : Bool) (k y : Int) (v : Value) (x' : Bool) (k' y' : Int) (u : Value) (n n' c c' : Nat) (a a' : Option Addr) (w : World) (ev : v = .slice a n c) (eu : u = .slice a' n' c') (e : x = x') (h : ¬ k = k') :
    Calls Try.prog 27 #[.agg #[.bool x, .int .i64 k, .int .i64 y, v], .agg #[.bool x', .int .i64 k', .int .i64 y', u]] w fun e w' => e = .returned (.bool false) ∧ Below w.heap.size w w' := by
  subst ev eu
  subst e
  have hx : (x != x) = false := by simp
  have h1 : (k == k') = false := by simpa using h
  clear h
  go_enter Try.func27, Try.ntmps27
  go_wp2
  go_ret
  exact ⟨rfl, two_new _ _⟩
set_option maxRecDepth 100000 in
theorem specSameTrails_y (x : Bool) (k y : Int) (v : Value) (x' : Bool) (k' y' : Int) (u : Value) (n n' c c' : Nat) (a a' : Option Addr) (w : World) (ev : v = .slice a n c) (eu : u = .slice a' n' c') (e : x = x') (e2 : k = k') (h : ¬ y = y') :
    Calls Try.prog 27 #[.agg #[.bool x, .int .i64 k, .int .i64 y, v], .agg #[.bool x', .int .i64 k', .int .i64 y', u]] w fun e w' => e = .returned (.bool false) ∧ Below w.heap.size w w' := by
  subst ev eu
  subst e e2
  have hx : (x != x) = false := by simp
  have h1 : (y == y') = false := by simpa using h
  clear h
  go_enter Try.func27, Try.ntmps27
  go_wp2
  go_ret
  exact ⟨rfl, two_new _ _⟩
set_option maxRecDepth 100000 in
theorem specSameTrails_n (x : Bool) (k y : Int) (v : Value) (x' : Bool) (k' y' : Int) (u : Value) (n n' c c' : Nat) (a a' : Option Addr) (w : World) (ev : v = .slice a n c) (eu : u = .slice a' n' c') (e : x = x') (e2 : k = k') (e3 : y = y') (h : n ≠ n') :
    Calls Try.prog 27 #[.agg #[.bool x, .int .i64 k, .int .i64 y, v], .agg #[.bool x', .int .i64 k', .int .i64 y', u]] w fun e w' => e = .returned (.bool false) ∧ Below w.heap.size w w' := by
  subst ev eu
  subst e e2 e3
  have hx : (x != x) = false := by simp
  have h1 : ((n : Int) != (n' : Int)) = true := by simp; omega
  clear h
  go_enter Try.func27, Try.ntmps27
  go_wp2
  go_ret
  exact ⟨rfl, two_new _ _⟩
theorem specSameTrails_any (x : Bool) (k y : Int) (v : Value) (l : Prl) (x' : Bool) (k' y' : Int) (u : Value) (m : Prl) (w : World) (hv : Prs w v l) (hu : Prs w u m) (hx : l.length ≤ 1099511627776) :
    Calls Try.prog 27 #[.agg #[.bool x, .int .i64 k, .int .i64 y, v], .agg #[.bool x', .int .i64 k', .int .i64 y', u]] w fun e w' => e = .returned (.bool (stB x k y l x' k' y' m)) ∧ Below w.heap.size w w' := by
  obtain ⟨a, c, ev⟩ := hv.shape
  obtain ⟨a', c', eu⟩ := hu.shape
  by_cases h1 : x = x'
  · by_cases h2 : k = k'
    · by_cases h3 : y = y'
      · by_cases h4 : l.length = m.length
        · subst h1 h2 h3 ev eu
          rw [stB_l]
          rw [← h4] at hu ⊢
          exact specSameTrails_loop x k y a a' l.length c c' l m w hv hu rfl h4.symm hx
        · have e : stB x k y l x' k' y' m = false := decide_eq_false (fun e => h4 (by rw [e.2.2.2]))
          rw [e]
          exact specSameTrails_n x k y v x' k' y' u _ _ c c' a a' w ev eu h1 h2 h3 h4
      · rw [stB_y h3]
        exact specSameTrails_y x k y v x' k' y' u _ _ c c' a a' w ev eu h1 h2 h3
    · rw [stB_k h2]
      exact specSameTrails_k x k y v x' k' y' u _ _ c c' a a' w ev eu h1 h2
  · rw [stB_x h1]
    exact specSameTrails_x x k y v x' k' y' u _ _ c c' a a' w ev eu h1
end U
end Go.Proofs.Ytljbcpkjhnbpeaa

/- Two lists of slots, compared as structs. -/
namespace Go.Proofs.Ytljbcpkjhnbpeaa
open Go.RowKit
namespace U
theorem lwBig4 (a : Option Addr) (n c : Nat) (w : World) (hn : n ≤ maxLen) :
    Calls Try.prog 8 #[.slice a n c] w fun e w' => e = .returned (.bool (decide (1048576 < n))) ∧ w' = w := by
  unfold maxLen at hn
  go_enter Try.func8, Try.ntmps8
  go_wp2
  go_ret
  exact ⟨ret_bool (by simp; omega), rfl⟩
end U
end Go.Proofs.Ytljbcpkjhnbpeaa

/- The law on proofs of the new tree, walked: true, and nothing that was there has turned. -/
namespace Go.Proofs.Ytljbcpkjhnbpeaa
open Go.RowKit
namespace U
theorem gI0 (x y : Int) (w : World) : (Instr.field 38 (.agg #[.int .i64 x, .int .i64 y]) 0).run Try.prog w = .ok (.int .i64 x) w := by kernel_rfl
theorem gI1 (x y : Int) (w : World) : (Instr.field 38 (.agg #[.int .i64 x, .int .i64 y]) 1).run Try.prog w = .ok (.int .i64 y) w := by kernel_rfl
theorem gT0 (c : Int) (x : Bool) (k z : Int) (a : Option Addr) (n d : Nat) (w : World) : (Instr.field 33 (.agg #[.int .i64 c, .bool x, .int .i64 k, .int .i64 z, .slice a n d]) 0).run Try.prog w = .ok (.int .i64 c) w := by kernel_rfl
/-- What AcceptNew of the program answers from a world on. -/
structure AcAt (W : World) (key : Int) (th : Bool) (v : Int) (V : Value) (rt : Int) (r : Bool) : Prop where
  c : ∀ w', Below W.heap.size W w' → Calls Try.prog 15 #[.int .i64 key, .bool th, .int .i64 v, V, .int .i64 rt] w' fun e w'' => e = .returned (.bool r) ∧ Below w'.heap.size w' w''
theorem nt_all (l : Prl) (key : Int) (hx : l.length ≤ 1048576) : ∃ oc x k y ws, (∀ u w, Prs w u l → Calls Try.prog 17 #[u, .int .i64 key] w fun e w' => TlAns w oc x k y ws e w') ∧ (∀ u w, Prs w u l → Okv u → Calls Try.prog 10 #[u, .int .i64 key] w fun e w' => TlAns w oc x k y ws e w') ∧
    (oc ≠ 0 ∨ (oc = 0 ∧ slF l = 0 ∧ inB key 0 255 = true ∧ ∃ tr, IsTr l tr ∧ GoodT l key x k y ws tr.sum)) := by
  rcases nt_cases l key hx with ⟨oc, hoc, hS, hI⟩ | ⟨h0, hk, tr, x, k, y, ws, htr, hg, hS, hI⟩
  · exact ⟨oc, false, 0, 0, [], hS, hI, Or.inl hoc⟩
  · exact ⟨0, x, k, y, ws, hS, hI, Or.inr ⟨rfl, h0, hk, tr, htr, hg⟩⟩
set_option maxRecDepth 100000 in
set_option maxHeartbeats 16000000 in
theorem fnNewProofs_small (cv : Value) (cs : List Int) (w : World) (h : Code w cv cs) (hob : cs ≠ [] → ∀ g, cv.ownBlock = some g → g < w.heap.size) :
    Calls Try.prog 3 #[cv] w fun e w' => e = .returned (.bool true) ∧ Below w.heap.size w w' := by
  obtain ⟨cva, cvc, rfl⟩ := h.1.shape
  have hbig : decide (1048576 < cs.length) = false := by simp; exact h.2.1
  have hlb := fun w => lwBig4 cva cs.length cvc w (by have := h.2.1; unfold maxLen; omega)
  rw [hbig] at hlb
  obtain ⟨cl, hcl⟩ : ∃ cl, cl = cs.length := ⟨_, rfl⟩
  rw [← hcl] at h hob hlb ⊢
  have hD1 := dNewTrail_any _ cs _ h hob
  have hD2 := fun w' (hb : Below w.heap.size w w') => dClimbNew_any _ cs w' (h.below hb) (fun hne g hg => Nat.lt_of_lt_of_le (hob hne g hg) hb.size)
  have hD3 := fun w' (hb : Below w.heap.size w w') => dAcceptNew_any _ cs w' (h.below hb) (fun hne g hg => Nat.lt_of_lt_of_le (hob hne g hg) hb.size)
  clear hcl hbig h hob
  go_enter Try.func3, Try.ntmps3
  go_wp2_with fail
  refine (hlb _).mono ?_
  rintro e w0 ⟨rfl, h0w⟩
  rw [h0w]
  clear hlb h0w w0
  go_wp2_with fail
  refine hD1.mono ?_
  rintro e w1 ⟨aL, cL, l, key, rfl, hl13, ho1, hb1⟩
  have PL := own_prs ho1
  have KL := own_okv ho1
  obtain ⟨oc, x, k, y, ws, hS, hI, hcs⟩ := nt_all l key (by omega)
  have HCS : Hid (oc ≠ 0 ∨ (oc = 0 ∧ slF l = 0 ∧ inB key 0 255 = true ∧ ∃ tr, IsTr l tr ∧ GoodT l key x k y ws tr.sum)) := hcs
  have hI1 := hI _ _ PL KL
  have HPL : Hid (∀ w', Below w1.heap.size w1 w' → Prs w' (.slice aL l.length cL) l) := fun w' h => PL.below h
  obtain ⟨n, hn⟩ : ∃ n, n = l.length := ⟨_, rfl⟩
  obtain ⟨m, hm⟩ : ∃ m, m = ws.length := ⟨_, rfl⟩
  have HN : Hid (n = l.length) := hn
  have HM : Hid (m = ws.length) := hm
  rw [← hn] at hI1 HPL KL ⊢
  clear hD1 ho1 hcs hI PL hn
  go_wp2_with fail
  refine hI1.mono ?_
  rintro e w2 ⟨a2, c2, rfl, hb2, own2⟩
  have P2 := own_prs own2
  rw [← hm] at P2 ⊢
  clear hm own2 hI1
  obtain ⟨w3, hw3⟩ : ∃ w3, w3 = w2.alloc (.cells #[.int .i64 oc, .bool x, .int .i64 k, .int .i64 y, .slice a2 m c2] 33) := ⟨_, rfl⟩
  have HW3 : Hid (w2.alloc (.cells #[.int .i64 oc, .bool x, .int .i64 k, .int .i64 y, .slice a2 m c2] 33) = w3) := hw3.symm
  have N3 : Pent w3 w2.heap.size (.int .i64 oc) (.bool x) (.int .i64 k) (.int .i64 y) (.slice a2 m c2) := by rw [hw3]; exact Pent.new w2 _ _ _ _ _ _
  have hb23 : Below w2.heap.size w2 w3 := by rw [hw3]; exact one_new _
  have P3 := P2.below hb23
  have hb13 := below_after_of hb2 hb23
  have hB3 := below_after_of hb1 hb13
  clear hw3 P2 hb2 hb23 hb1
  go_wp2_with fail
  rw [HW3.out]
  refine (hD2 _ hB3).mono ?_
  rintro e w4 ⟨ka, t, tk, tz, fa, fc, f, rfl, own4, hle4, hb4⟩
  obtain ⟨w5, hw5⟩ : ∃ w5, w5 = w4.alloc (.cells #[.bool t, .int .i64 tk, .int .i64 tz, .slice fa f.length fc] 31) := ⟨_, rfl⟩
  have HW5 : Hid (w4.alloc (.cells #[.bool t, .int .i64 tk, .int .i64 tz, .slice fa f.length fc] 31) = w5) := hw5.symm
  have A5 : TlBlk w5 w4.heap.size t tk tz (.slice fa f.length fc) := by rw [hw5]; exact tl_box w4 t tk tz _
  have hb45 : Below w4.heap.size w4 w5 := by rw [hw5]; exact one_new _
  have F5 := (own_prs own4).below hb45
  have hb35 := below_after_of hb4 hb45
  have N5 := N3.below hb35
  have P5 := P3.below hb35
  have hb15 := below_after_of hb13 hb35
  have hB5 := below_after_of hB3 hb35
  have hCN := implClimbNew_any ka t tk tz _ f w5 F5
  obtain ⟨q, hq⟩ : ∃ q, q = clC ka t tk tz f := ⟨_, rfl⟩
  obtain ⟨r, hr⟩ : ∃ r, r = clW ka t tk tz f := ⟨_, rfl⟩
  rw [← hq, ← hr] at hCN
  have HQ : Hid (q = clC ka t tk tz f) := hq
  have HR : Hid (r = clW ka t tk tz f) := hr
  obtain ⟨a0, a1, a2', a3⟩ := A5.cells
  clear hq hr hw5 own4 hb4 hb45 hb35 N3 P3 hb13 hB3 hD2 HW3
  go_wp2_with fail
  rw [HW5.out]
  refine hCN.mono ?_
  rintro e w6 ⟨rfl, hb6⟩
  obtain ⟨w7, hw7⟩ : ∃ w7, w7 = w6.alloc (.cells #[.int .i64 q, .int .i64 r] 38) := ⟨_, rfl⟩
  have HW7 : Hid (w6.alloc (.cells #[.int .i64 q, .int .i64 r] 38) = w7) := hw7.symm
  have hb67 : Below w6.heap.size w6 w7 := by rw [hw7]; exact one_new _
  have B7 : w7.heap[w6.heap.size]? = some (.cells #[.int .i64 q, .int .i64 r] 38) := by rw [hw7]; exact heap_alloc_new w6 _
  have hb57 := below_after_of hb6 hb67
  have A7 := A5.below hb57
  have F7 := F5.below hb57
  have N7 := N5.below hb57
  have P7 := P5.below hb57
  have hb17 := below_after_of hb15 hb57
  have hB7 := below_after_of hB5 hb57
  clear hCN hb6 hb67 hb57 A5 F5 N5 P5 hb15 hB5 hw7 HW5 a0 a1 a2' a3
  go_wp2_with fail
  rw [HW7.out]
  refine (hD3 _ hB7).mono ?_
  rintro e w8 ⟨ea, eb, ey, et, ek, ez, ha, hc, g, er, rfl, own8, hle8, hb8⟩
  obtain ⟨w9, hw9⟩ : ∃ w9, w9 = w8.alloc (.cells #[.bool et, .int .i64 ek, .int .i64 ez, .slice ha g.length hc] 31) := ⟨_, rfl⟩
  have HW9 : Hid (w8.alloc (.cells #[.bool et, .int .i64 ek, .int .i64 ez, .slice ha g.length hc] 31) = w9) := hw9.symm
  have C9 : TlBlk w9 w8.heap.size et ek ez (.slice ha g.length hc) := by rw [hw9]; exact tl_box w8 et ek ez _
  have hb89 : Below w8.heap.size w8 w9 := by rw [hw9]; exact one_new _
  have G9 := (own_prs own8).below hb89
  have hb79 := below_after_of hb8 hb89
  have A9 := A7.below hb79
  have F9 := F7.below hb79
  have N9 := N7.below hb79
  have P9 := P7.below hb79
  have B9 := (hb79.block w6.heap.size (Array.getElem?_eq_some_iff.1 B7).1).trans B7
  have hb19 := below_after_of hb17 hb79
  have hB9 := below_after_of hB7 hb79
  clear own8 hb8 hb89 hb79 A7 F7 N7 P7 B7 hb17 hB7 hw9 HW7 hD3
  have h1 := fun w' h => specClimbNew_any ka t tk tz _ f w' (F9.below (w' := w') h)
  have h2 := fun w' h => implAcceptNew_any ea eb ey et ek ez _ g er w' (G9.below (w' := w') h)
  have h3 := fun w' h => specAcceptNew_any ea eb ey et ek ez _ g er w' (G9.below (w' := w') h)
  rw [← HQ.out, ← HR.out] at h1
  generalize acN ea eb ey et ek ez g er = s at *
  obtain ⟨a0, a1, a2', a3⟩ := A9.cells
  obtain ⟨b0, b1, -, -⟩ := two_cellsV B9
  obtain ⟨c0, c1, c2', c3⟩ := C9.cells
  have a0 := After.cell a0
  have a1 := After.cell a1
  have a2' := After.cell a2'
  have a3 := After.cell a3
  have b0 := After.cell b0
  have b1 := After.cell b1
  have c0 := After.cell c0
  have c1 := After.cell c1
  have c2' := After.cell c2'
  have c3 := After.cell c3
  have hne := After.ne w9
  have hee : ∀ i : Int, (i != i) = false := by simp
  have hss : ∀ i : Bool, (i != i) = false := by simp
  have kf0 := gI0
  have kf1 := gI1
  clear HQ HR A9 B9 C9 F9 G9
  generalize f.length = n1 at *
  generalize g.length = n2 at *
  go_wp2_with fail
  rw [HW9.out]
  refine wp_region_after (by kernel_rfl) (by kernel_rfl) ?_
  repeat (first | go_big_quiet_skip | (go_big_quiet_want; go_big_quiet_op; first | go_big_quiet_on | go_big_quiet_call (first
    | (go_at_call 14; refine (h1 _ (After.b _)).mono ?_; rintro e wq ⟨rfl, hbq⟩; exact ⟨rfl, after_mk (below_after_of (After.b _) hbq)⟩)
    | (go_at_call 15; refine (h2 _ (After.b _)).mono ?_; rintro e wq ⟨rfl, hbq⟩; exact ⟨rfl, after_mk (below_after_of (After.b _) hbq)⟩)
    | (go_at_call 16; refine (h3 _ (After.b _)).mono ?_; rintro e wq ⟨rfl, hbq⟩; exact ⟨rfl, after_mk (below_after_of (After.b _) hbq)⟩))))
  refine wpQuiet_nil ?_
  rintro _ ⟨n3, rfl⟩
  have hB10 := below_after_of hB9 n3.b
  have hb10 := below_after_of hb19 n3.b
  have N10 := N9.below n3.b
  have P10 := P9.below n3.b
  generalize n3.w = w10 at *
  clear a0 a1 a2' a3 b0 b1 c0 c1 c2' c3 hne n3 h1 h2 h3 hB9 hb19 N9 P9 HW9
  rcases HCS.out with hoc | ⟨rfl, h0, hk, tr, htr, hg⟩
  · have hocb : (oc != 0) = true := by simpa using hoc
    have hoo : (oc == oc) = true := by simp
    have hS1 := fun w' h => hS _ w' (HN.out ▸ HPL.out w' h)
    rw [← HN.out] at hS1
    have n0 := N10.c0
    have hbr := Below.refl w10.heap.size w10
    have HC : Hid (∀ w', Below w10.heap.size w10 w' → w'.cell? ⟨w2.heap.size, 0, none⟩ = some (.int .i64 oc)) := fun w' h => (N10.below h).c0
    clear hS HCS hoc P10 N10
    go_upto_region 11 with fail
    go_region_held3 (fun w' => w'.cell? ⟨w2.heap.size, 0, none⟩ = some (.int .i64 oc))
      (first | exact n0 | exact HC.out _ hbr | exact HC.out _ hbr.drew)
      (first
        | (go_at_call 17; refine (hS1 _ (below_after_of hb10 (by first | exact hbr | exact hbr.drew))).mono ?_; rintro e wq ⟨aq, cq, rfl, hbq, -⟩; have hbr : Below w10.heap.size w10 wq := (by first | exact below_after_of hbr hbq | exact below_after_of hbr.drew hbq); have kt := fun w => gT0 oc x k y aq ws.length cq w))
    all_goals (
      have hBE := below_after_of hB10 hbr
      go_wp2
      go_ret
      exact ⟨by simp, hBE⟩)
  · have hFS := fun w' h => implFindSlot_any _ l key w' (HN.out ▸ HPL.out w' h) (by omega)
    have hNR := fun w' h => implNewRoot_ok _ l tr w' (HN.out ▸ HPL.out w' h) (HN.out ▸ KL) h0 htr
    have hS1 := fun w' h => hS _ w' (HN.out ▸ HPL.out w' h)
    rw [← HN.out] at hFS hNR hS1
    have hac := good_ac h0 hk hg
    have hTF := tlF_all hg.ok
    have HA := fun w' (hu : Prs w' (.slice a2 m c2) ws) th v rt => implAcceptNew_any key th v x k y _ ws rt w' hu
    have HT := fun w' (hu : Prs w' (.slice a2 m c2) ws) => implTrailFault_any x k y _ ws w' hu
    have HST := fun w' u v hu hv => implSameTrails_any x k y u ws x k y v ws w' hu hv (by have := hg.ok.len; omega) (by have := hg.ok.len; omega)
    rw [hTF] at HT
    rw [stB_l, decide_eq_true rfl] at HST
    obtain ⟨fc0, hfc0⟩ : ∃ fc0, fc0 = fsC l key := ⟨_, rfl⟩
    obtain ⟨fv0, hfv0⟩ : ∃ fv0, fv0 = fsV l key := ⟨_, rfl⟩
    obtain ⟨rt, hrt⟩ : ∃ rt, rt = tr.sum := ⟨_, rfl⟩
    rw [← hfc0, ← hfv0, ← hrt] at hac
    rw [← hfc0, ← hfv0] at hFS
    rw [← hrt] at hNR
    have hA1 := fun w' hu => HA w' hu (fc0 == 0) fv0 rt
    have hA2 := fun w' hu => HA w' hu (fc0 != 0) fv0 rt
    rw [hac.1] at hA1
    rw [hac.2] at hA2
    clear hfc0 hfv0 hrt hac hTF HA hg htr h0 hk hS HCS
    have n0 := N10.c0
    go_wp2_with fail
    refine (hFS _ hb10).mono ?_
    rintro e w11 ⟨rfl, hb11⟩
    obtain ⟨w12, hw12⟩ : ∃ w12, w12 = w11.alloc (.cells #[.int .i64 fc0, .int .i64 fv0] 38) := ⟨_, rfl⟩
    have HW12 : Hid (w11.alloc (.cells #[.int .i64 fc0, .int .i64 fv0] 38) = w12) := hw12.symm
    have hb1112 : Below w11.heap.size w11 w12 := by rw [hw12]; exact one_new _
    have Z12 : w12.heap[w11.heap.size]? = some (.cells #[.int .i64 fc0, .int .i64 fv0] 38) := by rw [hw12]; exact heap_alloc_new w11 _
    have hb1012 := below_after_of hb11 hb1112
    have N12 := N10.below hb1012
    have P12 := P10.below hb1012
    have hb12 := below_after_of hb10 hb1012
    have hB12 := below_after_of hB10 hb1012
    clear hFS hb11 hb1112 hb1012 N10 P10 hb10 hB10 hw12 n0
    go_wp2_with fail
    rw [HW12.out]
    refine (hNR _ hb12).mono ?_
    rintro e w13 ⟨rfl, hb13⟩
    obtain ⟨w14, hw14⟩ : ∃ w14, w14 = w13.alloc (.cells #[.int .i64 0, .int .i64 rt] 38) := ⟨_, rfl⟩
    have HW14 : Hid (w13.alloc (.cells #[.int .i64 0, .int .i64 rt] 38) = w14) := hw14.symm
    have hb1314 : Below w13.heap.size w13 w14 := by rw [hw14]; exact one_new _
    have Y14 : w14.heap[w13.heap.size]? = some (.cells #[.int .i64 0, .int .i64 rt] 38) := by rw [hw14]; exact heap_alloc_new w13 _
    have hb1214 := below_after_of hb13 hb1314
    have Z14 := (hb1214.block w11.heap.size (Array.getElem?_eq_some_iff.1 Z12).1).trans Z12
    have N14 := N12.below hb1214
    have P14 := P12.below hb1214
    have hb14 := below_after_of hb12 hb1214
    have hB14 := below_after_of hB12 hb1214
    clear hNR hb13 hb1314 hb1214 N12 P12 hb12 hB12 hw14 HW12 Z12
    have hacA : AcAt w14 key (fc0 == 0) fv0 (.agg #[.bool x, .int .i64 k, .int .i64 y, .slice a2 m c2]) rt true := ⟨fun w' h => hA1 w' (P14.below h)⟩
    have hacB : AcAt w14 key (fc0 != 0) fv0 (.agg #[.bool x, .int .i64 k, .int .i64 y, .slice a2 m c2]) rt false := ⟨fun w' h => hA2 w' (P14.below h)⟩
    have hTF1 := fun w' h => HT w' (P14.below (w' := w') h)
    have HC : Hid (∀ w', Below w14.heap.size w14 w' → (w'.cell? ⟨w2.heap.size, 1, none⟩ = some (.bool x) ∧ w'.cell? ⟨w2.heap.size, 2, none⟩ = some (.int .i64 k) ∧ w'.cell? ⟨w2.heap.size, 3, none⟩ = some (.int .i64 y) ∧ w'.cell? ⟨w2.heap.size, 4, none⟩ = some (.slice a2 m c2)) ∧ (w'.cell? ⟨w11.heap.size, 0, none⟩ = some (.int .i64 fc0) ∧ w'.cell? ⟨w11.heap.size, 1, none⟩ = some (.int .i64 fv0)) ∧ w'.cell? ⟨w13.heap.size, 1, none⟩ = some (.int .i64 rt)) := fun w' h => by
      have n := N14.below h
      obtain ⟨z0, z1, -, -⟩ := two_cellsV ((h.block w11.heap.size (Array.getElem?_eq_some_iff.1 Z14).1).trans Z14)
      obtain ⟨-, y1, -, -⟩ := two_cellsV ((h.block w13.heap.size (Array.getElem?_eq_some_iff.1 Y14).1).trans Y14)
      exact ⟨⟨n.c1, n.c2, n.c3, n.c4⟩, ⟨z0, z1⟩, y1⟩
    have hbr := Below.refl w14.heap.size w14
    have hm2 : Hid (m = ws.length) := HM
    clear hA1 hA2 HT N14 Z14 Y14
    go_wp2_with fail
    rw [HW14.out]
    go_region_held3 (fun w' => (w'.cell? ⟨w2.heap.size, 1, none⟩ = some (.bool x) ∧ w'.cell? ⟨w2.heap.size, 2, none⟩ = some (.int .i64 k) ∧ w'.cell? ⟨w2.heap.size, 3, none⟩ = some (.int .i64 y) ∧ w'.cell? ⟨w2.heap.size, 4, none⟩ = some (.slice a2 m c2)) ∧ (w'.cell? ⟨w11.heap.size, 0, none⟩ = some (.int .i64 fc0) ∧ w'.cell? ⟨w11.heap.size, 1, none⟩ = some (.int .i64 fv0)) ∧ w'.cell? ⟨w13.heap.size, 1, none⟩ = some (.int .i64 rt))
      (first | exact HC.out _ hbr | exact HC.out _ hbr.drew)
      (first
        | (go_at_call 15; refine (AcAt.c (by assumption) _ (by first | exact hbr | exact hbr.drew)).mono ?_; rintro e wq ⟨rfl, hbq⟩; have hbr : Below w14.heap.size w14 wq := (by first | exact below_after_of hbr hbq | exact below_after_of hbr.drew hbq))
        | (go_at_call 20; refine (hTF1 _ (by first | exact hbr | exact hbr.drew)).mono ?_; rintro e wq ⟨rfl, hbq⟩; have hbr : Below w14.heap.size w14 wq := (by first | exact below_after_of hbr hbq | exact below_after_of hbr.drew hbq))
        | (go_at_call 17; refine (hS1 _ (below_after_of hb14 (by first | exact hbr | exact hbr.drew))).mono ?_; rintro e wt ⟨aq, cq, rfl, hbq, oq⟩; have hbr : Below w14.heap.size w14 wt := (by first | exact below_after_of hbr hbq | exact below_after_of hbr.drew hbq); have Pq := own_prs oq; have kt := fun w => field_TR1 0 x k y aq ws.length cq w)
        | (go_at_call 21; refine (HST _ _ _ (P14.below hbr) Pq).mono ?_; rintro e wq ⟨rfl, hbq⟩; have hbr : Below w14.heap.size w14 wq := below_after_of hbr hbq))
    all_goals (
      have hBE := below_after_of hB14 hbr
      go_wp2
      go_ret
      exact ⟨by simp, hBE⟩)
set_option maxRecDepth 100000 in
set_option maxHeartbeats 1000000 in
theorem fnNewProofs_walk (v : Value) (xs : List Int) (w : World) (hv : Ints .u8 w v xs) (hx : xs.length ≤ maxLen) (hw : ∀ n ∈ xs, (Lit.int .u8 n).wf = true) :
    Calls Try.prog 3 #[v] w fun e w' => e = .returned (.bool true) ∧ Below w.heap.size w w' := by
  by_cases h : xs.length ≤ 1048576
  · exact fnNewProofs_small v xs w ⟨hv, h, hw⟩ (ints_far hv)
  · obtain ⟨a, c, rfl⟩ := hv.shape
    have hlb := fun w => lwBig4 a xs.length c w hx
    rw [show decide (1048576 < xs.length) = true by simp; omega] at hlb
    generalize xs.length = n at *
    clear hv hw
    go_enter Try.func3, Try.ntmps3
    go_wp2_with fail
    refine (hlb _).mono ?_
    rintro e w0 ⟨rfl, rfl⟩
    clear hlb
    go_wp2
    go_ret
    exact ⟨rfl, Below.refl _ _⟩
end U
end Go.Proofs.Ytljbcpkjhnbpeaa

/- What every law's row asks behind its walk: the arguments and the named variables read as they did, for nothing that was there has turned. -/
namespace Go.Proofs.Ytljbcpkjhnbpeaa
namespace U
open Go.ChangeShapes Go.WideShapes Go.ChangeAt Go.RowKit
section
variable {H : Type} {enc : TypeId × Value → H} {P : Program} {W W' : World}
theorem all_stays (hl : laidOutB P = true) (hb : Below W.heap.size W W') : ∀ (ts : List TypeId) (vs : List Value) (ds : List (DataW H)) (ps : List MemPlace), (∀ t ∈ ts, P.readableRec t = true ∧ t < P.types.size) →
    DataW.TrodAll enc P W 0 (fun _ => true) true ts vs ds ps → (∀ x ∈ ps, x.block < W.heap.size) → DataW.TrodAll enc P W' 0 (fun b => decide (b < W.heap.size)) true ts vs ds ps
  | [], [], [], _, _, h, _ => h
  | t :: ts, v :: vs, d :: ds, ps, ht, h, hlt => by
    obtain ⟨p, q, h1, h2, rfl⟩ := h
    have hp := ht t (by simp)
    exact ⟨p, q, Below.trod hl hp.1 hp.2 h1 hb (fun x hx => hlt x (by simp [hx])), all_stays hl hb ts vs ds q (fun t h => ht t (by simp [h])) h2 (fun x hx => hlt x (by simp [hx])), rfl⟩
  | [], [], _ :: _, _, _, h, _ => h.elim
  | [], _ :: _, _, _, _, h, _ => by cases h
  | _ :: _, [], _, _, _, h, _ => by cases h
  | _ :: _, _ :: _, [], _, _, h, _ => h.elim
theorem vars_stay (hl : laidOutB P = true) (hb : Below W.heap.size W W') : ∀ (ns : List String) (ds : List (DataW H)) (ps : List MemPlace), (∀ n ∈ ns, ∀ g t, P.globalNamed n = some g → (P.globals[g]?).map (·.type) = some t → P.readableRec t = true ∧ t < P.types.size) →
    DataW.TrodVars enc P W (fun _ => true) ns ds ps → (∀ x ∈ ps, x.block < W.heap.size) → DataW.TrodVars enc P W' (fun b => decide (b < W.heap.size)) ns ds ps
  | [], [], _, _, h, _ => h
  | n :: ns, d :: ds, ps, ht, h, hlt => by
    obtain ⟨g, t, cs, fuel, p, q, h1, h2, h3, h4, h5, rfl⟩ := h
    have hp := ht n (by simp) g t h1 h2
    have hg : g < W.heap.size := by
      have h3' := h3
      simp only [World.var?, h1, Option.bind_some] at h3'
      rcases hh : W.heap[g]? with _ | o
      · rw [hh] at h3'; cases h3'
      · exact (Array.getElem?_eq_some_iff.1 hh).1
    refine ⟨g, t, cs, fuel, p, q, h1, h2, var?_below hb h1 hg h3, ?_, vars_stay hl hb ns ds q (fun m hm => ht m (by simp [hm])) h5 (fun x hx => hlt x (by simp [hx])), rfl⟩
    exact DataW.trod_stays (kids_book hl hp.1) (book_sized hp.1) (fun h => by cases h) ⟨hp.2, book_self t⟩ h4 (fun x hx => hb.same (hlt x (by simp [hx]))) (fun x hx => by simpa using hlt x (by simp [hx]))
  | [], _ :: _, _, _, h, _ => h.elim
  | _ :: _, [], _, _, h, _ => h.elim
/-- A law that answered true and turned nothing. -/
theorem law_post {f : Func} {s : ChangeSpec} {apart : Bool} {args : Array Value} {ds gs : List (DataW H)} {before : List MemPlace} {tb : TypeId}
    (hW : DataW.Whole enc P f.params.toList s.vars apart W args.toList ds gs before) (hb : Below W.heap.size W W') (hl : laidOutB P = true)
    (ht : ∀ t ∈ f.params.toList, P.readableRec t = true ∧ t < P.types.size)
    (hv : ∀ n ∈ s.vars, ∀ g t, P.globalNamed n = some g → (P.globals[g]?).map (·.type) = some t → P.readableRec t = true ∧ t < P.types.size)
    (hr : f.resultTypes = #[tb]) (htb : P.underlying tb = some .bool)
    (hf1 : (s.fn H (ds ++ gs)).results = [.lit (.bool true)]) (hf2 : (s.fn H (ds ++ gs)).args = ds) (hf3 : (s.fn H (ds ++ gs)).vars = gs) :
    s.post enc P f apart true false false W args (.bool true) W' := by
  have hlt := hW.lt
  have hW2 := hW
  obtain ⟨p, q, hA, hV, rfl, _, _⟩ := hW
  refine ⟨ds, gs, p ++ q, [], p, q, hW2, ?_, ?_, ?_, hb.frame _, fun h => by cases h⟩
  · rw [hf1, hr]
    exact trodAll_cons_mk (shut_bool htb _) trodAll_mk0
  · rw [hf2]
    exact all_stays hl hb _ _ _ _ ht hA (fun x hx => hlt x (by simp [hx]))
  · rw [hf3]
    exact vars_stay hl hb _ _ _ hv hV (fun x hx => hlt x (by simp [hx]))
end
end U
end Go.Proofs.Ytljbcpkjhnbpeaa

/- An argument that is a slice of numbers, opened: it reads as a list. -/
namespace Go.Proofs.Ytljbcpkjhnbpeaa
namespace U
open Go.ChangeShapes Go.WideShapes Go.ChangeAt Go.RowKit
theorem ints_arg {H : Type} {enc : TypeId × Value → H} {P : Program} {W : World} {base : Nat} {t e : TypeId} {k : IntKind} {v : Value} {d : DataW H} {p : List MemPlace} (ht : P.underlying t = some (.slice e)) (he : P.underlying e = some (.int k)) (hce : P.cellsOf e = 1)
    (hv : Value.okWide P W .any base t v) (h : DataW.Trod enc P W 0 (fun _ => true) true t v d p) : ∃ xs, Ints k W v xs ∧ xs.length ≤ maxLen ∧ ∀ n ∈ xs, (Lit.int k n).wf = true := by
  obtain ⟨a0, len, cap, rfl⟩ := okWide_slice ht hv
  obtain ⟨fuel, hf⟩ := h
  rcases open_ints ht he hce hf with ⟨hcs, hx⟩ | ⟨a, len', cap', zs, hcs, h1, hl, hm, hz, hx, hcell, hwz⟩
  · have e1 : (Value.slice a0 len cap) = .slice none 0 0 := by simpa [Value.cells] using hcs
    cases e1
    exact ⟨[], Or.inl ⟨rfl, none, 0, rfl⟩, by simp, by simp⟩
  · have e1 : (Value.slice a0 len cap) = .slice (some a) len' cap' := by simpa [Value.cells] using hcs
    cases e1
    rw [if_pos rfl] at hz
    by_cases h0 : len = 0
    · subst h0
      exact ⟨[], Or.inl ⟨rfl, _, _, rfl⟩, by simp, by simp⟩
    · obtain ⟨b, off, rfl, hc⟩ := ints_at hcell (by omega)
      have hlen : (zs.take len).length = len := by rw [List.length_take]; omega
      have hb : b < W.heap.size := by
        have := hc 0 (by omega)
        rcases hh : W.heap[b]? with _ | o
        · simp [World.cell?, hh] at this
        · exact (Array.getElem?_eq_some_iff.1 hh).1
      refine ⟨zs.take len, Or.inr ⟨b, off, cap, by rw [hlen], hb, fun j hj => ?_⟩, by omega, fun n hn => hwz n (List.mem_of_mem_take hn)⟩
      rw [hlen] at hj
      rw [hc j (by omega)]
      congr 2
      simp only [List.getD_eq_getElem?_getD, List.getElem?_take, if_pos hj]
end U
end Go.Proofs.Ytljbcpkjhnbpeaa

/- The law FnNewProofs holds at every list of bytes: it answers true, and the list reads as it did. -/
namespace Go.Proofs.Ytljbcpkjhnbpeaa
namespace fnNewProofs
open Go.ChangeShapes Go.WideShapes Go.ChangeAt Go.RowKit

theorem laidOut : laidOutB Try.prog = true := by kernel_rfl
theorem own : ownKnob Try.prog.godebug = none := by kernel_rfl

set_option maxRecDepth 100000 in
theorem lifted (os : Os) (started : os.Started) (H : Type) (enc : TypeId × Value → H) :
    ReturnsInHanded {} Try.checked os 3 .any (Rows.fnNewProofsSpec.pre6 enc Try.prog Try.f3 Rows.fnNewProofsRow.domain false) (Rows.fnNewProofsSpec.post enc Try.prog Try.f3 false true false false) := by
  refine returnsInHanded_of_change (C := Try.checked) own started (by kernel_rfl) Try.func3
    (ChangeSpec.witness6 (enc := enc) (C := Try.checked) false ⟨#[], #[.slice none 0 0], []⟩ 8 (by kernel_rfl) (by kernel_rfl) (by kernel_rfl) (by kernel_rfl)) ?_
  intro W base args ds gs before hval0 hW hcnd _
  have hval : ∀ (j : Nat) t v, Try.f3.params[j]? = some t → args[j]? = some v → Value.okWide Try.prog W .any base t v := hval0
  have hW' := hW
  obtain ⟨p, q, hA0, hV, rfl, hfz, hnd⟩ := hW
  have hA : DataW.TrodAll enc Try.prog W 0 (fun _ => true) true Try.f3.params.toList args.toList ds p := hA0
  rw [Try.params3] at hA hval
  obtain ⟨v0, vs0, d0, ds0, p0, q0, hargs, rfl, rfl, h0, r0⟩ := trodAll_cons hA
  obtain ⟨rfl, rfl, rfl⟩ := trodAll_nil r0
  obtain rfl : args = #[v0] := by cases args; simp_all
  obtain ⟨rfl, rfl⟩ := trodVars_none hV
  obtain ⟨xs0, hxs0, hlen0, hwf0⟩ := U.ints_arg Try.underlying22 Try.underlying5 (by kernel_rfl) (hval 0 22 v0 rfl rfl) h0
  clear hA0 hval0
  refine (U.fnNewProofs_walk v0 xs0 W hxs0 hlen0 hwf0).mono fun e W' ⟨he, hg⟩ => ?_
  subst he
  refine ⟨_, rfl, U.law_post (tb := 4) hW' hg laidOut ?_ (fun n hn => by cases hn) (by kernel_rfl) Try.underlying4 rfl rfl rfl⟩
  rw [Try.params3]; intro t ht; simp at ht; subst ht; exact ⟨by kernel_rfl, of_decide_eq_true (by kernel_rfl)⟩

theorem over : Rows.fnNewProofsRow.holds Try.pinned (OpenSpec.ofChange Rows.fnNewProofsSpec) :=
  OpenClaim.holds_of_wide 3 Try.f3 rfl rfl rfl rfl rfl rfl rfl ⟨rfl, rfl, rfl, rfl, rfl⟩ rfl rfl rfl rfl rfl (by kernel_rfl) Try.func3 (by kernel_rfl)
    (of_decide_eq_true (by kernel_rfl)) (by unfold Func.isWrapper; first | (rw [if_pos (by decide +kernel)]; kernel_rfl) | (rw [if_neg (by decide +kernel)]; exact ⟨rfl, rfl⟩))
    (fun os started H enc _ => lifted os started H enc)
end fnNewProofs
/-- The law FnNewProofs: whatever the arguments, the call returns true and they read as before. -/
theorem fnNewProofs_holds : Rows.FnNewProofsSaid := fnNewProofs.over
#print axioms fnNewProofs_holds
end Go.Proofs.Ytljbcpkjhnbpeaa
