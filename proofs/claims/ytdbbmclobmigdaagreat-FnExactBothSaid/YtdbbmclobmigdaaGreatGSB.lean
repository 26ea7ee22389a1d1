/- Joined: what the texts behind it need. -/
import Derived.Test.YtdbbmclobmigdaaGreatNpM
import Derived.Test.YtdbbmclobmigdaaGreatSl1
import Derived.Test.YtdbbmclobmigdaaGreatQuiet
import Derived.Test.YtdbbmclobmigdaaGreatSlL
import Derived.RangeFuncNested
import Derived.RangeFuncBound
import Derived.RangeFuncCalls
import Derived.RangeFuncLeaves
import Derived.Shelf.Abstract
import Derived.Shelf.RegionOpen
import Derived.WalkKit
import Derived.OwnWalkIn
import Derived.TacticsInMore
import Derived.LoopNIn
import Derived.LoopIn
import Derived.Test.YtdbbmclobmigdaaGreatGSC
import Derived.Test.YtdbbmclobmigdaaGreatTrM
import Derived.Handy
import Derived.Lib.Walk
import Derived.Lib.BitFns
import Derived.Test.YtdbbmclobmigdaaGreatGSA
/- More on the codes of forks. -/
namespace Go.Proofs.YtdbbmclobmigdaaGreat
namespace U
theorem fk1_no {a : Int} {p : Int × Int} (h : fkB p = false) : fk1 a p = 3 := by unfold fk1; rw [h]; rfl
theorem fk1_low {a : Int} {p : Int × Int} (h : fkB p = true) (h2 : p.1 ≤ a) : fk1 a p = 1 := by unfold fk1; rw [h, if_pos rfl, if_pos h2]
theorem fk1_ok {a : Int} {p : Int × Int} (h : fkB p = true) (h2 : ¬ p.1 ≤ a) : fk1 a p = 0 := by unfold fk1; rw [h, if_pos rfl, if_neg h2]
theorem fkS_next {f : Prl} {j : Nat} (h : fkS f j = 0) : fkS f (j + 1) = fk1 (ahd f j) (pAt f j) := by rw [fkS, if_pos h]
theorem fkF_stop {f : Prl} {j : Nat} {q : Int} (h : fkS f j = 0) (hj : j + 1 ≤ f.length) (h1 : fk1 (ahd f j) (pAt f j) = q) (hq : q ≠ 0) : fkF f = q := by
  rw [← h1, ← fkS_next h]
  exact fkS_stop (by rw [fkS_next h, h1]; exact hq) _ hj
end U
end Go.Proofs.YtdbbmclobmigdaaGreat

/- The fault of a trail, as the model finds it. -/
namespace Go.Proofs.YtdbbmclobmigdaaGreat
open Go.RowKit
namespace U
/-- The value of a trail. -/
def tlV (x : Bool) (k y : Int) (sv : Value) : Value := .agg #[.bool x, .int .i64 k, .int .i64 y, sv]
/-- A block that holds a trail. -/
def TlBlk (w : World) (p : Nat) (x : Bool) (k y : Int) (sv : Value) : Prop := w.heap[p]? = some (.cells #[.bool x, .int .i64 k, .int .i64 y, sv] 48)
theorem TlBlk.cells {w : World} {p : Nat} {x : Bool} {k y : Int} {sv : Value} (h : TlBlk w p x k y sv) : w.cell? ⟨p, 0, none⟩ = some (.bool x) ∧ w.cell? ⟨p, 1, none⟩ = some (.int .i64 k) ∧ w.cell? ⟨p, 2, none⟩ = some (.int .i64 y) ∧ w.cell? ⟨p, 3, none⟩ = some sv := by
  unfold TlBlk at h
  refine ⟨?_, ?_, ?_, ?_⟩
  · unfold World.cell?; rw [h]; rfl
  · unfold World.cell?; rw [h]; rfl
  · unfold World.cell?; rw [h]; rfl
  · unfold World.cell?; rw [h]; rfl
theorem TlBlk.lt {w : World} {p : Nat} {x : Bool} {k y : Int} {sv : Value} (h : TlBlk w p x k y sv) : p < w.heap.size := (Array.getElem?_eq_some_iff.1 h).1
theorem TlBlk.below {w w' : World} {p : Nat} {x : Bool} {k y : Int} {sv : Value} (h : TlBlk w p x k y sv) (hb : Below w.heap.size w w') : TlBlk w' p x k y sv := (hb.block p h.lt).trans h
theorem tl_box (w : World) (x : Bool) (k y : Int) (sv : Value) : TlBlk (w.alloc (.cells #[.bool x, .int .i64 k, .int .i64 y, sv] 48)) w.heap.size x k y sv := heap_alloc_new w _
set_option maxRecDepth 100000 in
set_option maxHeartbeats 2000000 in
theorem l7Fault_loop (p : Nat) (x : Bool) (k y : Int) (ad : Option Addr) (n c : Nat) (f : Prl) (w : World) (H : TlBlk w p x k y (.slice ad n c)) (hv : Prs w (.slice ad n c) f) (HN : Hid (n = f.length)) (hn : n ≤ 8)
    (h1 : x = true ∨ (x = false ∧ k = 0 ∧ y = 0 ∧ n = 0)) (hk : inB k 0 255 = true) (hy : sumB y = true) :
    Calls Tryz.prog 132 #[.pointer (some ⟨p, 0, none⟩)] w fun e w' => e = .returned (.int .i64 (fkF f)) ∧ Below w.heap.size w w' := by
  have hK := fun w => l4Key_any k w
  have hS := fun w => l2Is4 y w
  rw [hk] at hK
  rw [hy] at hS
  obtain ⟨c0, c1, c2, c3⟩ := H.cells
  have HH : Hid (TlBlk w p x k y (.slice ad n c)) := H
  have hp := H.lt
  have hn8 : ¬ ((8 : Int) < (n : Int)) := by omega
  have HV : Hid (0 < n → ∃ b off, ad = some ⟨b, off, none⟩ ∧ b < w.heap.size ∧ ∀ j, j < n → w.cell? ⟨b, off + j * 2, none⟩ = some (.int .i64 (pAt f j).1) ∧ w.cell? ⟨b, off + j * 2 + 1, none⟩ = some (.int .i64 (pAt f j).2)) := (fun h0 => by
    have hl := HN.out
    obtain ⟨-, b, off, e, hb, hc⟩ := hv.at (by omega)
    exact ⟨b, off, e, hb, fun j hj => hc j (by omega)⟩ : 0 < n → _)
  clear H hv hk hy
  rcases h1 with rfl | ⟨rfl, rfl, rfl, rfl⟩
  · go_enter Tryz.func132, Tryz.ntmps132
    go_wp2_with fail
    refine (hK _).mono ?_
    rintro e w1 ⟨rfl, rfl⟩
    clear hK
    go_wp2_with fail
    refine (hS _).mono ?_
    rintro e w2 ⟨rfl, rfl⟩
    clear hS
    go_wp2
    go_loopw [3] (fun i wr => ∃ j : Nat, j ≤ n ∧ i = .int .i64 (j : Int) ∧ Hid (fkS f j = 0) ∧ Hid (Below w2.heap.size w2 wr)) (fun i _ => n - (intOf i).toNat)
    case atStart => exact ⟨0, Nat.zero_le _, rfl, rfl, Below.refl _ _⟩
    case round =>
      obtain ⟨j, hj, rfl, hF, hB⟩ := hrel
      have d3 := (hB.out.cell (p := ⟨p, 3, none⟩) hp).trans c3
      by_cases hjn : j < n
      · have hji : (j : Int) < (n : Int) := by omega
        obtain ⟨b, off, rfl, hb, hc⟩ := HV.out (by omega)
        have q0 := (hB.out.cell (p := ⟨b, off + j * 2, none⟩) hb).trans (hc j hjn).1
        have q1 := (hB.out.cell (p := ⟨b, off + j * 2 + 1, none⟩) hb).trans (hc j hjn).2
        have hI := fun w => l1In_any (pAt f j).1 0 7 w
        have hT := fun w => l2Is4 (pAt f j).2 w
        have HFK : Hid (fkB (pAt f j) = (inB (pAt f j).1 0 7 && sumB (pAt f j).2)) := rfl
        have HLF : Hid (j + 1 ≤ f.length) := (by have := HN.out; omega : j + 1 ≤ f.length)
        have HPV : Hid (∀ i, j = i + 1 → ahd f j = (pAt f i).1 ∧ wr.cell? ⟨b, off + i * 2, none⟩ = some (.int .i64 (pAt f i).1)) := (fun i e => ⟨by rw [e]; exact ahd_succ f i, (hB.out.cell (p := ⟨b, off + i * 2, none⟩) hb).trans (hc i (by omega)).1⟩ : ∀ i, j = i + 1 → _)
        clear hc HV
        obtain ⟨u, hu⟩ : ∃ u, u = inB (pAt f j).1 0 7 := ⟨_, rfl⟩
        obtain ⟨z, hz⟩ : ∃ z, z = sumB (pAt f j).2 := ⟨_, rfl⟩
        have HU : Hid (inB (pAt f j).1 0 7 = u) := hu.symm
        rw [← hu] at hI HFK
        rw [← hz] at hT HFK
        clear hu hz
        have HP : Hid (pAt f j = ((pAt f j).1, (pAt f j).2)) := rfl
        generalize (pAt f j).1 = fb at *
        generalize (pAt f j).2 = fo at *
        cases u
        · have HR : Hid (fkF f = 3) := fkF_stop hF.out HLF.out (fk1_no HFK.out) (by decide)
          clear HFK HLF hF HPV HP
          go_wp2_with fail
          refine (hI _).mono ?_
          rintro e w3 ⟨rfl, rfl⟩
          clear hI hT
          go_wp2
          go_ret
          exact ⟨ret_int HR.out.symm, hB.out⟩
        · cases z
          · have HR : Hid (fkF f = 3) := fkF_stop hF.out HLF.out (fk1_no HFK.out) (by decide)
            clear HFK HLF hF HPV HP
            go_wp2_with fail
            refine (hI _).mono ?_
            rintro e w3 ⟨rfl, rfl⟩
            clear hI
            go_wp2_with fail
            refine (hT _).mono ?_
            rintro e w3 ⟨rfl, rfl⟩
            clear hT
            go_wp2
            go_ret
            exact ⟨ret_int HR.out.symm, hB.out⟩
          · have hne := After.ne wr
            have a3 := After.cell d3
            have a0 := After.cell q0
            rcases j with _ | i
            · have hz0 : decide (0 < ((0 : Nat) : Int)) = false := by decide
              simp only [Nat.zero_mul, Nat.add_zero] at q0 q1 a0
              have HR : Hid (fkS f (0 + 1) = 0) := ((fkS_next hF.out).trans (fk1_ok HFK.out (by rw [HP.out, ahd_zero]; have := inB_bd HU.out; omega)) : fkS f (0 + 1) = 0)
              clear HFK HLF hF HPV HP HU
              go_wp2_with fail
              refine (hI _).mono ?_
              rintro e w3 ⟨rfl, rfl⟩
              clear hI
              go_wp2_with fail
              refine (hT _).mono ?_
              rintro e w3 ⟨rfl, rfl⟩
              clear hT
              go_wp2
              refine wp_region_after (by kernel_rfl) (by kernel_rfl) ?_
              repeat (first | go_big_quiet_skip | (go_big_quiet_want; go_big_quiet_op; first | go_big_quiet_on))
              refine wpQuiet_nil ?_
              rintro _ ⟨n2, rfl⟩
              have hB2 : Hid (Below w2.heap.size w2 n2.w) := below_after_of hB.out n2.b
              go_wp2
              go_roundw
              case rel => exact ⟨0 + 1, by omega, by go_num, HR, hB2⟩
              case measure => simp [intOf]; omega
            · obtain ⟨ea, qi⟩ := HPV.out i rfl
              have ai := After.cell qi
              have hz0 : decide (0 < ((i + 1 : Nat) : Int)) = true := by rw [decide_eq_true_iff]; omega
              have hi1 : ((i + 1 : Nat) : Int) - 1 = (i : Int) := by omega
              have HEA : Hid (ahd f (i + 1) = (pAt f i).1) := ea
              generalize (pAt f i).1 = fp at *
              by_cases hle : fb ≤ fp
              · have hd : decide (fb ≤ fp) = true := by simpa using hle
                have HR : Hid (fkF f = 1) := fkF_stop hF.out HLF.out (fk1_low HFK.out (by rw [HP.out, HEA.out]; exact hle)) (by decide)
                clear HFK HLF hF HPV HP HU ea HEA hle
                go_wp2_with fail
                refine (hI _).mono ?_
                rintro e w3 ⟨rfl, rfl⟩
                clear hI
                go_wp2_with fail
                refine (hT _).mono ?_
                rintro e w3 ⟨rfl, rfl⟩
                clear hT
                go_wp2
                refine wp_region_after (by kernel_rfl) (by kernel_rfl) ?_
                repeat (first | go_big_quiet_skip | (go_big_quiet_want; go_big_quiet_op; first | go_big_quiet_on))
                refine wpQuiet_nil ?_
                rintro _ ⟨n2, rfl⟩
                have hB2 : Hid (Below w2.heap.size w2 n2.w) := below_after_of hB.out n2.b
                go_wp2
                go_ret
                exact ⟨ret_int HR.out.symm, hB2.out⟩
              · have hd : decide (fb ≤ fp) = false := by simpa using hle
                have HR : Hid (fkS f (i + 1 + 1) = 0) := ((fkS_next hF.out).trans (fk1_ok HFK.out (by rw [HP.out, HEA.out]; exact hle)) : fkS f (i + 1 + 1) = 0)
                clear HFK HLF hF HPV HP HU ea HEA hle
                go_wp2_with fail
                refine (hI _).mono ?_
                rintro e w3 ⟨rfl, rfl⟩
                clear hI
                go_wp2_with fail
                refine (hT _).mono ?_
                rintro e w3 ⟨rfl, rfl⟩
                clear hT
                go_wp2
                refine wp_region_after (by kernel_rfl) (by kernel_rfl) ?_
                repeat (first | go_big_quiet_skip | (go_big_quiet_want; go_big_quiet_op; first | go_big_quiet_on))
                refine wpQuiet_nil ?_
                rintro _ ⟨n2, rfl⟩
                have hB2 : Hid (Below w2.heap.size w2 n2.w) := below_after_of hB.out n2.b
                go_wp2
                go_roundw
                case rel => exact ⟨i + 1 + 1, by omega, by go_num, HR, hB2⟩
                case measure => simp [intOf]; omega
      · have hjn : j = n := by omega
        subst hjn
        have HR : Hid (fkF f = 0) := (by unfold fkF; rw [← HN.out]; exact hF.out : fkF f = 0)
        go_wp2
        go_ret
        exact ⟨ret_int HR.out.symm, hB.out⟩
  · have HF0 : Hid (fkF f = 0) := (by have := HN.out; unfold fkF; rw [← this]; rfl : fkF f = 0)
    have hk00 : inB 0 0 255 = true := rfl
    clear HV HN
    go_enter Tryz.func132, Tryz.ntmps132
    go_wp2_with fail
    refine (hK _).mono ?_
    rintro e w1 ⟨rfl, rfl⟩
    clear hK
    go_wp2_with fail
    refine (hS _).mono ?_
    rintro e w2 ⟨rfl, rfl⟩
    clear hS
    go_wp2
    refine wp_loop_rounds 1 ?_; rw [rounds_succ]
    go_wp2
    go_ret
    exact ⟨ret_int HF0.out.symm, Below.refl _ _⟩
end U
end Go.Proofs.YtdbbmclobmigdaaGreat

/- Trails as the laws look at them: sizes, copies, compared. -/
namespace Go.Proofs.YtdbbmclobmigdaaGreat
open Go.RowKit
namespace U
theorem Tryz.infoFo7 : (Tryz.prog.info? 198).map (fun i => (i.zero, i.size, i.bytes)) = some (some (.agg #[.int .i64 0, .int .i64 0]), 2, 16) := by kernel_rfl
set_option maxHeartbeats 400000 in
theorem szForkS_any (a : Option Addr) (n c : Nat) (w : World) (hn : n ≤ maxLen) :
    Calls Tryz.prog 99 #[.slice a n c, .int .i64 1048576] w fun e w' => e = .returned (.int .i64 (if n ≤ 1048576 then (1048576 - n : Int) else -1)) ∧ w' = w := by
  unfold maxLen at hn
  by_cases h : n ≤ 1048576
  · rw [if_pos h]
    go_enter Tryz.func99, Tryz.ntmps99
    go_wp2
    go_ret
    exact ⟨rfl, rfl⟩
  · rw [if_neg h]
    go_enter Tryz.func99, Tryz.ntmps99
    go_wp2
    go_ret
    exact ⟨rfl, rfl⟩
set_option maxRecDepth 100000 in
theorem toFork_any (x y : Int) (w : World) :
    Calls Tryz.prog 134 #[.agg #[.int .i64 x, .int .i64 y]] w fun e w' => e = .returned (.agg #[.int .i64 x, .int .i64 y]) ∧ Below w.heap.size w w' := by
  go_enter Tryz.func134, Tryz.ntmps134
  go_wp2
  refine bodyPost_ret (v := .agg #[.int .i64 x, .int .i64 y]) (by simp [results, Tryz.results134, go_sem]) rfl ⟨rfl, ?_⟩
  exact (two_new _ _).alloc (by simp; omega) _
theorem made_forks {w1 w : World} {n : Nat} {l : Prl} (HN : n = l.length) (h : w1.ownsRow w.heap.size 198 2 (.slice (some ⟨w.heap.size, 0, none⟩) n n) n (madeCells #[Value.int .i64 0, Value.int .i64 0] (n * 2)).toList) :
    w1.ownsRow w.heap.size 198 2 (.slice (some ⟨w.heap.size, 0, none⟩) n n) n ((copied (fl l) 0).map (Value.int .i64)) := by
  rw [copied_zero, fl_len, ← HN, List.map_replicate, ← made_two]
  exact h
set_option maxRecDepth 100000 in
set_option maxHeartbeats 2000000 in
theorem toForkS_core (b off c n : Nat) (l : Prl) (w : World) (HN : Hid (n = l.length)) (hx : n ≤ 1048576) (hb : b < w.heap.size)
    (hc : ∀ j, j < n → w.cell? ⟨b, off + j * 2, none⟩ = some (.int .i64 (pAt l j).1) ∧ w.cell? ⟨b, off + j * 2 + 1, none⟩ = some (.int .i64 (pAt l j).2)) :
    Calls Tryz.prog 106 #[.slice (some ⟨b, off, none⟩) n c] w fun e w' => e = .returned (.slice (some ⟨w.heap.size, 0, none⟩) n n) ∧ Below w.heap.size w w' ∧ w'.ownsRow w.heap.size 198 2 (.slice (some ⟨w.heap.size, 0, none⟩) n n) n ((fl l).map (Value.int .i64)) := by
  obtain ⟨i0, hi, hz0, hz1, hz2⟩ := info_parts Tryz.infoFo7
  go_enter Tryz.func106, Tryz.ntmps106
  go_wp2_with (at_make; refine wpList_make_full _ rfl _ _ 46 rfl w.heap.size 198 i0 (.agg #[.int .i64 0, .int .i64 0]) 2 Tryz.underlying46 hi hz0 hz1 _ _ _ _ n rfl rfl rfl rfl (by rw [hz2]; omega) (by unfold maxLen; omega) (Nat.le_refl _) ?_)
  intro w1 hown1 hg1
  have own1 := made_forks HN.out hown1
  have hB1 : Below w.heap.size w w1 := (Below.refl _ _).grown hg1 (Nat.le_refl _) (fun k hk => by cases hk)
  clear hown1 hg1
  go_wp2
  go_loopw [4] (fun i wr => ∃ k : Nat, k ≤ n ∧ i = .int .i64 k ∧ Below w.heap.size w wr ∧ w.heap.size < wr.heap.size ∧ wr.ownsRow w.heap.size 198 2 (.slice (some ⟨w.heap.size, 0, none⟩) n n) n ((copied (fl l) (k * 2)).map (Value.int .i64))) (fun i _ => n - (intOf i).toNat)
  case atStart => exact ⟨0, Nat.zero_le _, rfl, hB1, (own1.lt _ rfl).2, own1⟩
  case round =>
    obtain ⟨k, hk, rfl, hB, hsz, ho⟩ := hrel
    by_cases hkn : k < n
    · have hki : (k : Int) < (n : Int) := by omega
      have hc1 := (hB.cell (p := ⟨b, off + k * 2, none⟩) hb).trans (hc k hkn).1
      have hc2 := (hB.cell (p := ⟨b, off + k * 2 + 1, none⟩) hb).trans (hc k hkn).2
      have hlk : k < l.length := by have := HN.out; omega
      have hts := two_set l hlk
      obtain ⟨x, hx⟩ : ∃ x, x = (pAt l k).1 := ⟨_, rfl⟩
      obtain ⟨y, hy⟩ : ∃ y, y = (pAt l k).2 := ⟨_, rfl⟩
      rw [← hx] at hc1 hts
      rw [← hy] at hc2 hts
      have HT : Hid (((copied (fl l) (k * 2)).set (k * 2) x).set (k * 2 + 1) y = copied (fl l) ((k + 1) * 2)) := hts
      have HB : Hid (Below w.heap.size w wr) := hB
      have HO : Hid (wr.ownsRow w.heap.size 198 2 (.slice (some ⟨w.heap.size, 0, none⟩) n n) n ((copied (fl l) (k * 2)).map (Value.int .i64))) := ho
      clear hx hy hc hts own1 hB1 ho hB
      go_wp2_with fail
      refine (toFork_any x y _).mono ?_
      rintro e w2 ⟨rfl, hb2⟩
      have ho2 := own_below HO.out hb2
      have f0 := ho2.frozenAt (k * 2)
      have f1 := ho2.frozenAt (k * 2 + 1)
      obtain ⟨z0, g0⟩ := own_some2 ho2 (j := k * 2) (by omega)
      obtain ⟨z1, g1⟩ := own_some2 ho2 (j := k * 2 + 1) (by omega)
      have s1 := (ho2.stored (k * 2) (.int .i64 x)).1
      have s2 := (s1.stored (k * 2 + 1) (.int .i64 y)).1
      rw [← List.map_set, ← List.map_set, HT.out] at s2
      have hB2 : Below w.heap.size w ((w2.setCell ⟨w.heap.size, k * 2, none⟩ (.int .i64 x)).setCell ⟨w.heap.size, k * 2 + 1, none⟩ (.int .i64 y)) := ((below_after_of HB.out hb2).setCell (Nat.le_refl _) _).setCell (Nat.le_refl _) _
      have hsz2 : w.heap.size < w2.heap.size := by have := hb2.size; omega
      have HB2 : Hid (Below w.heap.size w ((w2.setCell ⟨w.heap.size, k * 2, none⟩ (.int .i64 x)).setCell ⟨w.heap.size, k * 2 + 1, none⟩ (.int .i64 y))) := hB2
      have HS2 : Hid (((w2.setCell ⟨w.heap.size, k * 2, none⟩ (.int .i64 x)).setCell ⟨w.heap.size, k * 2 + 1, none⟩ (.int .i64 y)).ownsRow w.heap.size 198 2 (.slice (some ⟨w.heap.size, 0, none⟩) n n) n ((copied (fl l) ((k + 1) * 2)).map (Value.int .i64))) := s2
      clear ho2 s1 s2 hB2 hb2
      go_wp2
      go_roundw
      case rel => exact ⟨k + 1, by omega, by go_num, HB2.out, by simp; omega, HS2.out⟩
      case measure => simp [intOf]; omega
    · have hkn : k = n := by omega
      subst hkn
      have e1 : copied (fl l) (k * 2) = fl l := by rw [HN.out, ← fl_len]; exact copied_all _
      rw [e1] at ho
      go_wp2
      go_ret
      exact ⟨rfl, hB, ho⟩
set_option maxRecDepth 100000 in
set_option maxHeartbeats 1000000 in
theorem toForkS_any (v : Value) (l : Prl) (w : World) (hv : Prs w v l) (hx : l.length ≤ 1048576) :
    Calls Tryz.prog 106 #[v] w fun e w' => ∃ a c, e = .returned (.slice a l.length c) ∧ Below w.heap.size w w' ∧ w'.ownsRow w.heap.size 198 2 (.slice a l.length c) l.length ((fl l).map (Value.int .i64)) := by
  obtain ⟨a, c, rfl⟩ := hv.shape
  by_cases h0 : 0 < l.length
  · obtain ⟨_, b, off, rfl, hb, hc⟩ := hv.at h0
    refine (toForkS_core b off c l.length l w rfl hx hb hc).mono ?_
    rintro e w' ⟨rfl, hB, ho⟩
    exact ⟨_, _, rfl, hB, ho⟩
  · have e1 : l = [] := List.eq_nil_of_length_eq_zero (by omega)
    subst e1
    obtain ⟨i0, hi, hz0, hz1, hz2⟩ := info_parts Tryz.infoFo7
    simp only [List.length_nil]
    clear hv h0 hx
    go_enter Tryz.func106, Tryz.ntmps106
    go_wp2_with (at_make; refine wpList_make_full _ rfl _ _ 46 rfl w.heap.size 198 i0 (.agg #[.int .i64 0, .int .i64 0]) 2 Tryz.underlying46 hi hz0 hz1 _ _ _ _ 0 rfl rfl rfl rfl (by rw [hz2]; omega) (by unfold maxLen; omega) (Nat.le_refl _) ?_)
    intro w1 hown1 hg1
    have hB1 : Below w.heap.size w w1 := (Below.refl _ _).grown hg1 (Nat.le_refl _) (fun k hk => by cases hk)
    have HO : Hid (w1.ownsRow w.heap.size 198 2 (.slice (some ⟨w.heap.size, 0, none⟩) 0 0) 0 []) := by
      have := hown1
      rw [made_two] at this
      exact this
    clear hown1 hg1
    go_wp2
    refine wp_loop_rounds 1 ?_; rw [rounds_succ]
    go_wp2
    go_ret
    exact ⟨_, _, rfl, hB1, HO.out⟩
set_option maxRecDepth 100000 in
theorem eqFork7_any (x y x' y' : Int) (w : World) :
    Calls Tryz.prog 152 #[.agg #[.int .i64 x, .int .i64 y], .agg #[.int .i64 x', .int .i64 y']] w fun e w' => e = .returned (.bool (decide ((x, y) = (x', y')))) ∧ Below w.heap.size w w' := by
  by_cases h1 : x = x'
  · by_cases h2 : y = y'
    · subst h1 h2
      rw [decide_eq_true rfl]
      go_enter Tryz.func152, Tryz.ntmps152
      go_wp2
      go_ret
      exact ⟨rfl, two_new _ _⟩
    · subst h1
      have e1 : (y != y') = true := by simpa using h2
      rw [decide_eq_false (fun h => h2 (by cases h; rfl))]
      clear h2
      go_enter Tryz.func152, Tryz.ntmps152
      go_wp2
      go_ret
      exact ⟨rfl, two_new _ _⟩
  · have e1 : (x != x') = true := by simpa using h1
    rw [decide_eq_false (fun h => h1 (by cases h; rfl))]
    clear h1
    go_enter Tryz.func152, Tryz.ntmps152
    go_wp2
    go_ret
    exact ⟨rfl, two_new _ _⟩
set_option maxRecDepth 100000 in
set_option maxHeartbeats 2000000 in
theorem eqForkS7_core (b off c b' off' c' n : Nat) (l m : Prl) (w : World) (HL : Hid (l.length = n)) (HM : Hid (m.length = n)) (hn : n ≤ 1099511627776) (hb : b < w.heap.size) (hb' : b' < w.heap.size)
    (hc : ∀ j, j < n → w.cell? ⟨b, off + j * 2, none⟩ = some (.int .i64 (pAt l j).1) ∧ w.cell? ⟨b, off + j * 2 + 1, none⟩ = some (.int .i64 (pAt l j).2))
    (hc' : ∀ j, j < n → w.cell? ⟨b', off' + j * 2, none⟩ = some (.int .i64 (pAt m j).1) ∧ w.cell? ⟨b', off' + j * 2 + 1, none⟩ = some (.int .i64 (pAt m j).2)) :
    Calls Tryz.prog 118 #[.slice (some ⟨b, off, none⟩) n c, .slice (some ⟨b', off', none⟩) n c'] w fun e w' => e = .returned (.bool (decide (l = m))) ∧ Below w.heap.size w w' := by
  go_enter Tryz.func118, Tryz.ntmps118
  go_wp2
  go_loopw [5] (fun i wr => ∃ k : Nat, k ≤ n ∧ i = .int .i64 k ∧ Hid (AgreeP l m k) ∧ Below w.heap.size w wr) (fun i _ => n - (intOf i).toNat)
  case atStart => exact ⟨0, Nat.zero_le _, rfl, fun j hj => by omega, Below.refl _ _⟩
  case round =>
    obtain ⟨k, hk, rfl, hA, hB⟩ := hrel
    by_cases hkn : k < n
    · have hki : (k : Int) < (n : Int) := by omega
      have c1 := After.cell ((hB.cell (p := ⟨b, off + k * 2, none⟩) hb).trans (hc k hkn).1)
      have c2 := After.cell ((hB.cell (p := ⟨b, off + k * 2 + 1, none⟩) hb).trans (hc k hkn).2)
      have c3 := After.cell ((hB.cell (p := ⟨b', off' + k * 2, none⟩) hb').trans (hc' k hkn).1)
      have c4 := After.cell ((hB.cell (p := ⟨b', off' + k * 2 + 1, none⟩) hb').trans (hc' k hkn).2)
      have hne := After.ne wr
      have hE := fun w => eqFork7_any (pAt l k).1 (pAt l k).2 (pAt m k).1 (pAt m k).2 w
      have HL2 : Hid (l.length = n) := HL
      generalize hx : (pAt l k).1 = x at *
      generalize hy : (pAt l k).2 = y at *
      generalize hx' : (pAt m k).1 = x' at *
      generalize hy' : (pAt m k).2 = y' at *
      have HP : Hid (pAt l k = (x, y) ∧ pAt m k = (x', y')) := ⟨by rw [← hx, ← hy], by rw [← hx', ← hy']⟩
      obtain ⟨d, hd⟩ : ∃ d, d = decide ((x, y) = (x', y')) := ⟨_, rfl⟩
      have HD : Hid (d = decide ((x, y) = (x', y'))) := hd
      rw [← hd] at hE
      have HB : Hid (Below w.heap.size w wr) := hB
      clear hx hy hx' hy' hc hc' hd hB
      go_wp2
      refine wp_region_after (by kernel_rfl) (by kernel_rfl) ?_
      repeat (first | go_big_quiet_skip | (go_big_quiet_want; go_big_quiet_op; first | go_big_quiet_on | go_big_quiet_call (first | (go_at_call 152; refine (hE _).mono ?_; rintro e wq ⟨rfl, hbq⟩; exact ⟨rfl, after_mk (below_after_of (After.b _) hbq)⟩))))
      refine wpQuiet_nil ?_
      rintro _ ⟨n2, rfl⟩
      have hB2 : Below w.heap.size w n2.w := below_after_of HB.out n2.b
      cases d
      · have e1 : Hid (¬ l = m) := fun e => by
          have := HD.out.symm
          rw [decide_eq_false_iff_not] at this
          exact this (by rw [← HP.out.1, ← HP.out.2, e])
        go_wp2
        go_ret
        exact ⟨ret_bool (by symm; rw [decide_eq_false_iff_not]; exact e1.out), hB2⟩
      · go_wp2
        go_roundw
        case rel => exact ⟨k + 1, by omega, by go_num, hA.out.succ (by rw [HP.out.1, HP.out.2]; exact of_decide_eq_true HD.out.symm), hB2⟩
        case measure => simp [intOf]; omega
    · clear hc hc'
      go_wp2
      go_ret
      refine ⟨ret_bool ?_, hB⟩
      symm
      rw [decide_eq_true_iff]
      have hkn : k = n := by omega
      subst hkn
      have hxl := HL.out
      exact AgreeP.all (by rw [hxl]; exact hA.out) (HL.out.trans HM.out.symm)
set_option maxRecDepth 100000 in
set_option maxHeartbeats 1000000 in
theorem eqForkS7_any (v u : Value) (l m : Prl) (w : World) (hv : Prs w v l) (hu : Prs w u m) (hx : l.length ≤ 1099511627776) (hy : m.length ≤ 1099511627776) :
    Calls Tryz.prog 118 #[v, u] w fun e w' => e = .returned (.bool (decide (l = m))) ∧ Below w.heap.size w w' := by
  obtain ⟨a, c, rfl⟩ := hv.shape
  obtain ⟨a', c', rfl⟩ := hu.shape
  by_cases hl : l.length = m.length
  · by_cases h0 : 0 < l.length
    · obtain ⟨_, b, off, rfl, hb, hc⟩ := hv.at h0
      obtain ⟨_, b', off', rfl, hb', hc'⟩ := hu.at (by omega)
      rw [← hl] at hc' ⊢
      exact eqForkS7_core b off c b' off' c' l.length l m w rfl hl.symm hx hb hb' hc hc'
    · have e1 : l = [] := List.eq_nil_of_length_eq_zero (by omega)
      have e2 : m = [] := List.eq_nil_of_length_eq_zero (by omega)
      subst e1 e2
      simp only [List.length_nil]
      clear hv hu hl h0 hx hy
      go_enter Tryz.func118, Tryz.ntmps118
      go_wp2
      refine wp_loop_rounds 1 ?_; rw [rounds_succ]
      go_wp2
      go_ret
      exact ⟨rfl, Below.refl _ _⟩
  · have hne : decide (l = m) = false := by rw [decide_eq_false_iff_not]; intro e; exact hl (by rw [e])
    rw [hne]
    obtain ⟨n, hn⟩ : ∃ n, n = l.length := ⟨_, rfl⟩
    obtain ⟨k, hk⟩ : ∃ n, n = m.length := ⟨_, rfl⟩
    rw [← hn, ← hk] at hl ⊢
    have h1 : ((n : Int) != (k : Int)) = true := by simp; omega
    clear hv hu hl hne hn hk
    go_enter Tryz.func118, Tryz.ntmps118
    go_wp2
    go_ret
    exact ⟨rfl, Below.refl _ _⟩
set_option maxRecDepth 100000 in
theorem szTrail_any (x : Bool) (k y : Int) (a : Option Addr) (n c : Nat) (w : World) (hn : n ≤ maxLen) :
    Calls Tryz.prog 60 #[.agg #[.bool x, .int .i64 k, .int .i64 y, .slice a n c], .int .i64 1048576] w fun e w' => e = .returned (.int .i64 (if n ≤ 1048576 then (1048576 - n : Int) else -1)) ∧ Below w.heap.size w w' := by
  have hZ := fun w => szForkS_any a n c w hn
  by_cases h : n ≤ 1048576
  · rw [if_pos h] at hZ ⊢
    have h2 : ¬ ((1048576 - n : Int) < 0) := by omega
    generalize (1048576 - n : Int) = z at *
    go_enter Tryz.func60, Tryz.ntmps60
    go_wp2_with fail
    refine (hZ _).mono ?_
    rintro e w1 ⟨rfl, rfl⟩
    clear hZ
    go_wp2
    go_ret
    exact ⟨rfl, one_new _⟩
  · rw [if_neg h] at hZ ⊢
    go_enter Tryz.func60, Tryz.ntmps60
    go_wp2_with fail
    refine (hZ _).mono ?_
    rintro e w1 ⟨rfl, rfl⟩
    clear hZ
    go_wp2
    go_ret
    exact ⟨rfl, one_new _⟩
set_option maxRecDepth 100000 in
set_option maxHeartbeats 1000000 in
theorem eqTrail7_same (x : Bool) (k y : Int) (v u : Value) (l : Prl) (w : World) (hv : Prs w v l) (hu : Prs w u l) (hx : l.length ≤ 1099511627776) :
    Calls Tryz.prog 95 #[.agg #[.bool x, .int .i64 k, .int .i64 y, v], .agg #[.bool x, .int .i64 k, .int .i64 y, u]] w fun e w' => e = .returned (.bool true) ∧ Below w.heap.size w w' := by
  obtain ⟨a, c', rfl⟩ := hv.shape
  obtain ⟨a', d', rfl⟩ := hu.shape
  have hE := fun w' h => eqForkS7_any _ _ l l w' (hv.below h) (hu.below h) hx hx
  have hS := fun w => eqSlot_any k y k y w
  have hxx : (x != x) = false := by simp
  rw [decide_eq_true rfl] at hE hS
  generalize l.length = n at *
  clear hv hu
  obtain ⟨W, hW⟩ : ∃ W, W = (w.alloc (.cells #[.bool x, .int .i64 k, .int .i64 y, .slice a n c'] 48)).alloc (.cells #[.bool x, .int .i64 k, .int .i64 y, .slice a' n d'] 48) := ⟨_, rfl⟩
  have HW : Hid ((w.alloc (.cells #[.bool x, .int .i64 k, .int .i64 y, .slice a n c'] 48)).alloc (.cells #[.bool x, .int .i64 k, .int .i64 y, .slice a' n d'] 48) = W) := hW.symm
  have hB : Below w.heap.size w W := by rw [hW]; exact two_new _ _
  have H1 : W.heap[w.heap.size]? = some (.cells #[.bool x, .int .i64 k, .int .i64 y, .slice a n c'] 48) := by
    rw [hW]; exact ((one_new _).block w.heap.size (by simp)).trans (heap_alloc_new w _)
  have H2 : W.heap[w.heap.size + 1]? = some (.cells #[.bool x, .int .i64 k, .int .i64 y, .slice a' n d'] 48) := by
    have h := heap_alloc_new (w.alloc (.cells #[.bool x, .int .i64 k, .int .i64 y, .slice a n c'] 48)) (.cells #[.bool x, .int .i64 k, .int .i64 y, .slice a' n d'] 48)
    rw [World.size_alloc] at h
    rw [hW]
    exact h
  have hsz : w.heap.size + 1 < W.heap.size := (Array.getElem?_eq_some_iff.1 H2).1
  obtain ⟨p0, p1, p2, p3⟩ := TlBlk.cells H1
  obtain ⟨q0, q1, q2, q3⟩ := TlBlk.cells H2
  clear hW
  go_enter Tryz.func95, Tryz.ntmps95
  go_wp2_with fail
  rw [HW.out]
  refine (hS _).mono ?_
  rintro e w1 ⟨rfl, hb1⟩
  have hB1 := below_after_of hB hb1
  obtain ⟨r0, r1, r2, r3⟩ := TlBlk.cells ((hb1.block w.heap.size (by omega)).trans H1)
  obtain ⟨s0, s1, s2, s3⟩ := TlBlk.cells ((hb1.block (w.heap.size + 1) hsz).trans H2)
  clear hS H1 H2 p0 p1 p2 p3 q0 q1 q2 q3 hb1
  go_wp2_with fail
  refine (hE _ hB1).mono ?_
  rintro e w2 ⟨rfl, hb2⟩
  have hB2 := below_after_of hB1 hb2
  clear hE r0 r1 r2 r3 s0 s1 s2 s3
  go_wp2
  go_ret
  exact ⟨rfl, hB2⟩
theorem blk4L {w : World} {b : Nat} {x y z u : Value} {t : TypeId} (h : w.heap[b]? = some (.cells #[x, y, z, u] t (0, 0))) : (w.cell? ⟨b, 0, none⟩ = some x ∧ w.cell? ⟨b, 1, none⟩ = some y ∧ w.cell? ⟨b, 2, none⟩ = some z ∧ w.cell? ⟨b, 3, none⟩ = some u) ∧ (w.frozen? ⟨b, 0, none⟩ = false ∧ w.frozen? ⟨b, 1, none⟩ = false ∧ w.frozen? ⟨b, 2, none⟩ = false ∧ w.frozen? ⟨b, 3, none⟩ = false) := by
  refine ⟨⟨?_, ?_, ?_, ?_⟩, ⟨?_, ?_, ?_, ?_⟩⟩
  · unfold World.cell?; rw [h]; rfl
  · unfold World.cell?; rw [h]; rfl
  · unfold World.cell?; rw [h]; rfl
  · unfold World.cell?; rw [h]; rfl
  · unfold World.frozen?; rw [h]; rfl
  · unfold World.frozen?; rw [h]; rfl
  · unfold World.frozen?; rw [h]; rfl
  · unfold World.frozen?; rw [h]; rfl
theorem three_lieL (w : World) (o o' o'' : Obj) : (((w.alloc o).alloc o').alloc o'').heap[w.heap.size]? = some o ∧ (((w.alloc o).alloc o').alloc o'').heap[w.heap.size + 1]? = some o' ∧ (((w.alloc o).alloc o').alloc o'').heap[w.heap.size + 1 + 1]? = some o'' := by
  have h1 := heap_alloc_new (w.alloc o) o'
  have h2 := heap_alloc_new ((w.alloc o).alloc o') o''
  simp only [World.size_alloc] at h1 h2
  exact ⟨((two_new o' o'').block w.heap.size (by simp)).trans (heap_alloc_new w o), ((one_new o'').block (w.heap.size + 1) (by simp)).trans h1, h2⟩
set_option maxRecDepth 100000 in
set_option maxHeartbeats 2000000 in
theorem toTrail_any (x : Bool) (k y : Int) (v : Value) (l : Prl) (w : World) (hv : Prs w v l) (hx : l.length ≤ 1048576) :
    Calls Tryz.prog 74 #[.agg #[.bool x, .int .i64 k, .int .i64 y, v]] w fun e w' => ∃ a c, e = .returned (.agg #[.bool x, .int .i64 k, .int .i64 y, .slice a l.length c]) ∧ Below w.heap.size w w' ∧ w'.ownsRow w.heap.size 198 2 (.slice a l.length c) l.length ((fl l).map (Value.int .i64)) := by
  have hT := fun w' h => toForkS_any v l w' (hv.below (w' := w') h) hx
  have hS := fun w => toSlot_any k y w
  obtain ⟨av, cv, rfl⟩ := hv.shape
  obtain ⟨W, hW⟩ : ∃ W, W = ((w.alloc (.cells #[.bool x, .int .i64 k, .int .i64 y, .slice av l.length cv] 31)).alloc (.cells #[.bool false, .int .i64 0, .int .i64 0, .slice none 0 0] 48)).alloc (.cells #[.bool x, .int .i64 0, .int .i64 0, .slice none 0 0] 48) := ⟨_, rfl⟩
  have HW : Hid (((w.alloc (.cells #[.bool x, .int .i64 k, .int .i64 y, .slice av l.length cv] 31)).alloc (.cells #[.bool false, .int .i64 0, .int .i64 0, .slice none 0 0] 48)).alloc (.cells #[.bool x, .int .i64 0, .int .i64 0, .slice none 0 0] 48) = W) := hW.symm
  have hB : Below w.heap.size w W := by rw [hW]; exact ((one_new _).alloc (one_new _).size _).alloc ((one_new _).alloc (one_new _).size _).size _
  have hLL : Hid (W.heap[w.heap.size]? = some (.cells #[.bool x, .int .i64 k, .int .i64 y, .slice av l.length cv] 31) ∧ W.heap[w.heap.size + 1]? = some (.cells #[.bool false, .int .i64 0, .int .i64 0, .slice none 0 0] 48) ∧ W.heap[w.heap.size + 1 + 1]? = some (.cells #[.bool x, .int .i64 0, .int .i64 0, .slice none 0 0] 48)) := (by rw [hW]; exact three_lieL w _ _ _ : _ ∧ _)
  obtain ⟨H0, H1, H2⟩ := hLL.out
  obtain ⟨⟨a0, a1, a2, a3⟩, -⟩ := blk4L H0
  obtain ⟨⟨c0, c1, c2, c3⟩, f0, f1, f2, f3⟩ := blk4L H2
  have hz : Hid (w.heap.size + 1 + 1 < W.heap.size) := (Array.getElem?_eq_some_iff.1 H2).1
  generalize hm : l.length = n at *
  have HM : Hid (l.length = n) := hm
  clear hW hv hm H0 H1 H2
  go_enter Tryz.func74, Tryz.ntmps74
  go_wp2_with fail
  rw [HW.out]
  refine (hS _).mono ?_
  rintro e w1 ⟨rfl, hb1⟩
  have hB1 := below_after_of hB hb1
  have G0 := (hb1.block w.heap.size (by have := hz.out; omega)).trans hLL.out.1
  have G1 := (hb1.block (w.heap.size + 1) (by have := hz.out; omega)).trans hLL.out.2.1
  have G2 := (hb1.block (w.heap.size + 1 + 1) hz.out).trans hLL.out.2.2
  have hz1 : Hid (w.heap.size + 1 + 1 < w1.heap.size) := (Array.getElem?_eq_some_iff.1 G2).1
  obtain ⟨⟨b0, b1, b2, b3⟩, -⟩ := blk4L G0
  obtain ⟨⟨d0, d1, d2, d3⟩, g0, g1, g2, g3⟩ := blk4L G2
  have hB2 : Below w.heap.size w ((w1.setCell ⟨w.heap.size + 1 + 1, 1, none⟩ (.int .i64 k)).setCell ⟨w.heap.size + 1 + 1, 2, none⟩ (.int .i64 y)) := (hB1.setCell (by show w.heap.size ≤ w.heap.size + 1 + 1; omega) _).setCell (by show w.heap.size ≤ w.heap.size + 1 + 1; omega) _
  have K1 : ((w1.setCell ⟨w.heap.size + 1 + 1, 1, none⟩ (.int .i64 k)).setCell ⟨w.heap.size + 1 + 1, 2, none⟩ (.int .i64 y)).heap[w.heap.size + 1]? = some (.cells #[.bool false, .int .i64 0, .int .i64 0, .slice none 0 0] 48) := by
    rw [heap_setCell_other _ _ _ _ (show w.heap.size + 1 ≠ w.heap.size + 1 + 1 by omega), heap_setCell_other _ _ _ _ (show w.heap.size + 1 ≠ w.heap.size + 1 + 1 by omega)]; exact G1
  have K2 : ((w1.setCell ⟨w.heap.size + 1 + 1, 1, none⟩ (.int .i64 k)).setCell ⟨w.heap.size + 1 + 1, 2, none⟩ (.int .i64 y)).heap[w.heap.size + 1 + 1]? = some (.cells #[.bool x, .int .i64 k, .int .i64 y, .slice none 0 0] 48) :=
    heap_setCell_same _ _ 2 _ _ _ (heap_setCell_same _ _ 1 _ _ _ G2)
  clear hS hb1 hB hB1 G0 G1 G2 a0 a1 a2 a3 c0 c1 c2 c3 f0 f1 f2 f3
  go_wp2_with fail
  generalize ((w1.setCell ⟨w.heap.size + 1 + 1, 1, none⟩ (.int .i64 k)).setCell ⟨w.heap.size + 1 + 1, 2, none⟩ (.int .i64 y)) = w2 at *
  refine (hT _ hB2).mono ?_
  rintro e w3 ⟨a3, c3, rfl, hb3, own3⟩
  have hB3 := below_after_of hB2 hb3
  have hz2 : w.heap.size + 1 + 1 < w2.heap.size := (Array.getElem?_eq_some_iff.1 K2).1
  obtain ⟨⟨m0, m1, m2, m3⟩, n0, n1, n2, n3⟩ := blk4L ((hb3.block (w.heap.size + 1) (by omega)).trans K1)
  obtain ⟨⟨p0, p1, p2, p3⟩, q0, q1, q2, q3⟩ := blk4L ((hb3.block (w.heap.size + 1 + 1) hz2).trans K2)
  have HOW : Hid (w3.ownsRow w2.heap.size 198 2 (.slice a3 n c3) n ((fl l).map (Value.int .i64))) := own3
  have HZ : Hid (w.heap.size + 1 + 1 < w2.heap.size) := hz2
  have HB3 : Hid (Below w.heap.size w w3) := hB3
  clear hT hB2 hb3 hB3 own3 K1 K2 b0 b1 b2 b3 d0 d1 d2 d3 g0 g1 g2 g3 hz2
  go_wp2
  refine bodyPost_ret (v := .agg #[.bool x, .int .i64 k, .int .i64 y, .slice a3 n c3]) (by simp [results, Tryz.results74, go_sem, *]) rfl ⟨a3, c3, rfl, ?_, ?_⟩
  · exact ((((HB3.out.setCell (by show w.heap.size ≤ w.heap.size + 1 + 1; omega) _).setCell (by show w.heap.size ≤ w.heap.size + 1; omega) _).setCell (by show w.heap.size ≤ w.heap.size + 1; omega) _).setCell (by show w.heap.size ≤ w.heap.size + 1; omega) _).setCell (by show w.heap.size ≤ w.heap.size + 1; omega) _
  · have h1 : w.heap.size + 1 < w2.heap.size := by have := HZ.out; omega
    exact own_mono (ownsRow_setCell_below (ownsRow_setCell_below (ownsRow_setCell_below (ownsRow_setCell_below (ownsRow_setCell_below HOW.out HZ.out _) h1 _) h1 _) h1 _) h1 _) (by have := HZ.out; omega)
end U
end Go.Proofs.YtdbbmclobmigdaaGreat

/- Two trails compared, as the program and as the model do it. -/
namespace Go.Proofs.YtdbbmclobmigdaaGreat
open Go.RowKit
namespace U
theorem cellB {W wr : World} {b i : Nat} {v : Value} (h : Below W.heap.size W wr) (hc : W.cell? ⟨b, i, none⟩ = some v) : wr.cell? ⟨b, i, none⟩ = some v := After.cell hc ⟨wr, h⟩
set_option maxRecDepth 100000 in
set_option maxHeartbeats 2000000 in
theorem equalForks_core (b off c b' off' c' n : Nat) (l m : Prl) (w : World) (HL : Hid (l.length = n)) (HM : Hid (m.length = n)) (hn : n ≤ 1099511627776) (hb : b < w.heap.size) (hb' : b' < w.heap.size)
    (hc : ∀ j, j < n → w.cell? ⟨b, off + j * 2, none⟩ = some (.int .i64 (pAt l j).1) ∧ w.cell? ⟨b, off + j * 2 + 1, none⟩ = some (.int .i64 (pAt l j).2))
    (hc' : ∀ j, j < n → w.cell? ⟨b', off' + j * 2, none⟩ = some (.int .i64 (pAt m j).1) ∧ w.cell? ⟨b', off' + j * 2 + 1, none⟩ = some (.int .i64 (pAt m j).2)) :
    Calls Tryz.prog 137 #[.slice (some ⟨b, off, none⟩) n c, .slice (some ⟨b', off', none⟩) n c'] w fun e w' => e = .returned (.bool (decide (l = m))) ∧ Below w.heap.size w w' := by
  go_enter Tryz.func137, Tryz.ntmps137
  go_wp2
  go_loopw [13] (fun i wr => ∃ k : Nat, k ≤ n ∧ i = .int .i64 k ∧ Hid (AgreeP l m k) ∧ Below w.heap.size w wr) (fun i _ => n - (intOf i).toNat)
  case atStart => exact ⟨0, Nat.zero_le _, rfl, fun j hj => by omega, Below.refl _ _⟩
  case round =>
    obtain ⟨k, hk, rfl, hA, hB⟩ := hrel
    by_cases hkn : k < n
    · have hki : (k : Int) < (n : Int) := by omega
      have c1 := After.cell ((hB.cell (p := ⟨b, off + k * 2, none⟩) hb).trans (hc k hkn).1)
      have c2 := After.cell ((hB.cell (p := ⟨b, off + k * 2 + 1, none⟩) hb).trans (hc k hkn).2)
      have c3 := After.cell ((hB.cell (p := ⟨b', off' + k * 2, none⟩) hb').trans (hc' k hkn).1)
      have c4 := After.cell ((hB.cell (p := ⟨b', off' + k * 2 + 1, none⟩) hb').trans (hc' k hkn).2)
      have hne := After.ne wr
      generalize hx : (pAt l k).1 = x at *
      generalize hy : (pAt l k).2 = y at *
      generalize hx' : (pAt m k).1 = x' at *
      generalize hy' : (pAt m k).2 = y' at *
      have HP : Hid (pAt l k = (x, y) ∧ pAt m k = (x', y')) := ⟨by rw [← hx, ← hy], by rw [← hx', ← hy']⟩
      have HB : Hid (Below w.heap.size w wr) := hB
      clear hx hy hx' hy' hc hc' hB
      by_cases h : (x, y) = (x', y')
      · cases h
        go_wp2
        refine wp_region_after (by kernel_rfl) (by kernel_rfl) ?_
        repeat (first | go_big_quiet_skip | (go_big_quiet_want; go_big_quiet_op; first | go_big_quiet_on))
        refine wpQuiet_nil ?_
        rintro _ ⟨n2, rfl⟩
        have hB2 : Below w.heap.size w n2.w := below_after_of HB.out n2.b
        go_wp2
        go_roundw
        case rel => exact ⟨k + 1, by omega, by go_num, hA.out.succ (by rw [HP.out.1, HP.out.2]), hB2⟩
        case measure => simp [intOf]; omega
      · have e1 : Hid (¬ l = m) := fun e => h (by rw [← HP.out.1, ← HP.out.2, e])
        by_cases h1 : x = x'
        · subst h1
          have h2 : (y == y') = false := by
            have : y ≠ y' := fun e => h (by rw [e])
            simpa using this
          clear h
          go_wp2
          refine wp_region_after (by kernel_rfl) (by kernel_rfl) ?_
          repeat (first | go_big_quiet_skip | (go_big_quiet_want; go_big_quiet_op; first | go_big_quiet_on))
          refine wpQuiet_nil ?_
          rintro _ ⟨n2, rfl⟩
          have hB2 : Below w.heap.size w n2.w := below_after_of HB.out n2.b
          go_wp2
          go_ret
          exact ⟨ret_bool (by symm; rw [decide_eq_false_iff_not]; exact e1.out), hB2⟩
        · have h2 : (x == x') = false := by simpa using h1
          clear h h1
          go_wp2
          refine wp_region_after (by kernel_rfl) (by kernel_rfl) ?_
          repeat (first | go_big_quiet_skip | (go_big_quiet_want; go_big_quiet_op; first | go_big_quiet_on))
          refine wpQuiet_nil ?_
          rintro _ ⟨n2, rfl⟩
          have hB2 : Below w.heap.size w n2.w := below_after_of HB.out n2.b
          go_wp2
          go_ret
          exact ⟨ret_bool (by symm; rw [decide_eq_false_iff_not]; exact e1.out), hB2⟩
    · clear hc hc'
      go_wp2
      go_ret
      refine ⟨ret_bool ?_, hB⟩
      symm
      rw [decide_eq_true_iff]
      have hkn : k = n := by omega
      subst hkn
      have hxl := HL.out
      exact AgreeP.all (by rw [hxl]; exact hA.out) (HL.out.trans HM.out.symm)
set_option maxRecDepth 100000 in
set_option maxHeartbeats 1000000 in
theorem equalForks_any (v u : Value) (l m : Prl) (w : World) (hv : Prs w v l) (hu : Prs w u m) (hx : l.length ≤ 1099511627776) (hy : m.length ≤ 1099511627776) :
    Calls Tryz.prog 137 #[v, u] w fun e w' => e = .returned (.bool (decide (l = m))) ∧ Below w.heap.size w w' := by
  obtain ⟨a, c, rfl⟩ := hv.shape
  obtain ⟨a', c', rfl⟩ := hu.shape
  by_cases hl : l.length = m.length
  · by_cases h0 : 0 < l.length
    · obtain ⟨_, b, off, rfl, hb, hc⟩ := hv.at h0
      obtain ⟨_, b', off', rfl, hb', hc'⟩ := hu.at (by omega)
      rw [← hl] at hc' ⊢
      exact equalForks_core b off c b' off' c' l.length l m w rfl hl.symm hx hb hb' hc hc'
    · have e1 : l = [] := List.eq_nil_of_length_eq_zero (by omega)
      have e2 : m = [] := List.eq_nil_of_length_eq_zero (by omega)
      subst e1 e2
      simp only [List.length_nil]
      clear hv hu hl h0 hx hy
      go_enter Tryz.func137, Tryz.ntmps137
      go_wp2
      refine wp_loop_rounds 1 ?_; rw [rounds_succ]
      go_wp2
      go_ret
      exact ⟨rfl, Below.refl _ _⟩
  · have hne : decide (l = m) = false := by rw [decide_eq_false_iff_not]; intro e; exact hl (by rw [e])
    rw [hne]
    obtain ⟨n, hn⟩ : ∃ n, n = l.length := ⟨_, rfl⟩
    obtain ⟨k, hk⟩ : ∃ n, n = m.length := ⟨_, rfl⟩
    rw [← hn, ← hk] at hl ⊢
    have h1 : ((n : Int) != (k : Int)) = true := by simp; omega
    clear hv hu hl hne hn hk
    go_enter Tryz.func137, Tryz.ntmps137
    go_wp2
    go_ret
    exact ⟨rfl, Below.refl _ _⟩
/-- Are two trails the same? -/
def stB (x : Bool) (k y : Int) (l : Prl) (x' : Bool) (k' y' : Int) (m : Prl) : Bool := decide (x = x' ∧ k = k' ∧ y = y' ∧ l = m)
theorem stB_x {x x' : Bool} {k y k' y' : Int} {l m : Prl} (h : x ≠ x') : stB x k y l x' k' y' m = false := decide_eq_false (fun e => h e.1)
theorem stB_k {x x' : Bool} {k y k' y' : Int} {l m : Prl} (h : ¬ k = k') : stB x k y l x' k' y' m = false := decide_eq_false (fun e => h e.2.1)
theorem stB_y {x x' : Bool} {k y k' y' : Int} {l m : Prl} (h : ¬ y = y') : stB x k y l x' k' y' m = false := decide_eq_false (fun e => h e.2.2.1)
theorem stB_l {x : Bool} {k y : Int} {l m : Prl} : stB x k y l x k y m = decide (l = m) := by unfold stB; simp
set_option maxRecDepth 100000 in
set_option maxHeartbeats 2000000 in
theorem implSameTrails_any (x : Bool) (k y : Int) (v : Value) (l : Prl) (x' : Bool) (k' y' : Int) (u : Value) (m : Prl) (w : World) (hv : Prs w v l) (hu : Prs w u m) (hx : l.length ≤ 1099511627776) (hy : m.length ≤ 1099511627776) :
    Calls Tryz.prog 109 #[.agg #[.bool x, .int .i64 k, .int .i64 y, v], .agg #[.bool x', .int .i64 k', .int .i64 y', u]] w fun e w' => e = .returned (.bool (stB x k y l x' k' y' m)) ∧ Below w.heap.size w w' := by
  have hE := fun w' h => equalForks_any v u l m w' (hv.below (w' := w') h) (hu.below h) hx hy
  obtain ⟨a, c, rfl⟩ := hv.shape
  obtain ⟨a', c', rfl⟩ := hu.shape
  obtain ⟨W, hW⟩ : ∃ W, W = (w.alloc (.cells #[.bool x, .int .i64 k, .int .i64 y, .slice a l.length c] 48)).alloc (.cells #[.bool x', .int .i64 k', .int .i64 y', .slice a' m.length c'] 48) := ⟨_, rfl⟩
  have HW : Hid ((w.alloc (.cells #[.bool x, .int .i64 k, .int .i64 y, .slice a l.length c] 48)).alloc (.cells #[.bool x', .int .i64 k', .int .i64 y', .slice a' m.length c'] 48) = W) := hW.symm
  have hB : Below w.heap.size w W := by rw [hW]; exact two_new _ _
  have H1 : TlBlk W w.heap.size x k y (.slice a l.length c) := by rw [hW]; exact (tl_box w x k y _).below (one_new _)
  have H2 : TlBlk W (w.heap.size + 1) x' k' y' (.slice a' m.length c') := by
    have h := tl_box (w.alloc (.cells #[.bool x, .int .i64 k, .int .i64 y, .slice a l.length c] 48)) x' k' y' (.slice a' m.length c')
    rw [World.size_alloc] at h
    rw [hW]
    exact h
  have hp1 := H1.lt
  have hp2 := H2.lt
  obtain ⟨p0, p1, p2, p3⟩ := H1.cells
  obtain ⟨q0, q1, q2, q3⟩ := H2.cells
  by_cases h1 : x = x'
  · subst h1
    have hxx : (x == x) = true := by simp
    by_cases h2 : k = k'
    · subst h2
      by_cases h3 : y = y'
      · subst h3
        rw [stB_l]
        generalize decide (l = m) = q at *
        generalize l.length = n at *
        generalize m.length = n' at *
        clear hv hu H1 H2 hW
        go_enter Tryz.func109, Tryz.ntmps109
        go_wp2_with fail
        rw [HW.out]
        refine (hE _ hB).mono ?_
        rintro e w1 ⟨rfl, hb1⟩
        have hB1 := below_after_of hB hb1
        clear hE hb1
        go_wp2
        go_ret
        exact ⟨rfl, hB1⟩
      · rw [stB_y h3]
        have h4 : (y == y') = false := by simpa using h3
        generalize l.length = n at *
        generalize m.length = n' at *
        clear hv hu H1 H2 hW hE h3
        go_enter Tryz.func109, Tryz.ntmps109
        go_wp2
        go_ret
        exact ⟨rfl, two_new _ _⟩
    · rw [stB_k h2]
      have h4 : (k == k') = false := by simpa using h2
      generalize l.length = n at *
      generalize m.length = n' at *
      clear hv hu H1 H2 hW hE h2
      go_enter Tryz.func109, Tryz.ntmps109
      go_wp2
      go_ret
      exact ⟨rfl, two_new _ _⟩
  · rw [stB_x h1]
    have h4 : (x == x') = false := by simpa using h1
    generalize l.length = n at *
    generalize m.length = n' at *
    clear hv hu H1 H2 hW hE h1
    go_enter Tryz.func109, Tryz.ntmps109
    go_wp2
    go_ret
    exact ⟨rfl, two_new _ _⟩
end U
end Go.Proofs.YtdbbmclobmigdaaGreat

/- The iterator over the forks of a trail, each one behind the bit of the one ahead, for every body that writes cells of one block alone. -/
namespace Go.Proofs.YtdbbmclobmigdaaGreat
open Go.RowKit Go.Shelf
namespace U
attribute [local go_sem] Oper.semAt_some
/-- What a round keeps: all cells but those of one block. -/
structure KpX (X : Nat) (A B : World) : Prop where
  z : A.heap.size ≤ B.heap.size
  s : ∀ k o, k ≠ X → o.isCells = true → A.heap[k]? = some o → B.heap[k]? = some o
theorem KpX.refl (X : Nat) (A : World) : KpX X A A := ⟨Nat.le_refl _, fun _ _ _ _ h => h⟩
theorem KpX.trans {X : Nat} {A B C : World} (h : KpX X A B) (k : KpX X B C) : KpX X A C := ⟨Nat.le_trans h.z k.z, fun i o h1 h2 h3 => k.s i o h1 h2 (h.s i o h1 h2 h3)⟩
theorem KpX.put {X : Nat} (W : World) (l : Nat) (o o' : Obj) (h : W.heap[l]? = some o) (hn : o.isCells = false) : KpX X W (W.putObj l o') :=
  ⟨by rw [World.putObj_size]; exact Nat.le_refl _, fun k q _ hq hk => by
    have hne : k ≠ l := fun e => by subst e; rw [h] at hk; cases hk; rw [hn] at hq; cases hq
    rw [World.putObj_heap_other hne]; exact hk⟩
theorem KpX.of_below {X : Nat} {A B : World} (h : Below A.heap.size A B) : KpX X A B := ⟨h.size, fun k _ _ _ hk => (h.block k (Array.getElem?_eq_some_iff.1 hk).1).trans hk⟩
theorem KpX.cell {X : Nat} {A B : World} (h : KpX X A B) {b o : Nat} {v : Value} (hne : b ≠ X) (hc : A.cell? ⟨b, o, none⟩ = some v) : B.cell? ⟨b, o, none⟩ = some v := by
  unfold World.cell? at hc ⊢
  rcases hh : A.heap[b]? with _ | ob
  · simp [hh] at hc
  · rcases ob with ⟨cs, t, fz⟩ | _ | _ | _ | _ | _ | _ | _ <;> simp [hh] at hc
    have := h.s b _ hne rfl hh
    simp [this]
    exact hc
theorem KpX.set {X : Nat} {A B : World} (h : KpX X A B) (o : Nat) (v : Value) : KpX X A (B.setCell ⟨X, o, none⟩ v) :=
  ⟨by rw [World.size_setCell]; exact h.z, fun k q h1 h2 h3 => (heap_setCell_other _ _ _ _ h1).trans (h.s k q h1 h2 h3)⟩
theorem box1_cell {w : World} {b : Nat} {v : Value} {t : TypeId} (h : w.heap[b]? = some (.cells #[v] t (0, 0))) : w.cell? ⟨b, 0, none⟩ = some v := by unfold World.cell?; rw [h]; rfl
/-- The first ones of what comes. -/
def upTo {α : Type} (g : Nat → α) (m : Nat) : List α := (List.range m).map g
theorem upTo_succ {α : Type} (g : Nat → α) (m : Nat) : upTo g (m + 1) = upTo g m ++ [g m] := by unfold upTo; rw [List.range_succ, List.map_append]; rfl
theorem upTo_len {α : Type} (g : Nat → α) (m : Nat) : (upTo g m).length = m := by simp [upTo]
set_option maxRecDepth 100000 in
theorem forksUp_any (v : Value) (f : Prl) (w : World) (hv : Prs w v f) : Calls Tryz.prog 181 #[v] w fun e w' => e = .returned (.func (.func 185) #[] #[.pointer (some ⟨w.heap.size, 0, none⟩)]) ∧ w' = w.alloc (.cells #[v] 46) := by
  obtain ⟨a, c, rfl⟩ := hv.shape
  clear hv
  go_enter Tryz.func181, Tryz.ntmps181
  go_wp2
  go_ret
  exact ⟨rfl, rfl⟩
set_option maxRecDepth 100000 in
set_option maxHeartbeats 2000000 in
theorem forksUp_in {α : Type} (n : Nat) (hn : 1 ≤ n) (l X Bs b off len cap : Nat) (av : Option Addr) (f : Prl) (g : Nat → α) (encs : α → Array Value) (HL : Hid (len = f.length)) (hlen : len ≤ 1000) (hX : 0 < len → b ≠ X) (hav : 0 < len → av = some ⟨b, off, none⟩)
    (HE : Hid (∀ j, j < len → encs (g j) = #[.int .i64 (ahd f j), .agg #[.int .i64 (pAt f j).1, .int .i64 (pAt f j).2]])) (J Jx : List α → World → Prop)
    (hJ : ∀ s A B, J s A → A.grownBy B none → J s B)
    (hY : ∀ pre x W, J pre W → pre.length < len → YieldAt Fence.wide (n - 1) Tryz.prog l (encs x) W fun e W' =>
      (e = .returned (.bool true) ∧ J (pre ++ [x]) W' ∧ KpX X W W') ∨ (e = .returned (.bool false) ∧ Jx (pre ++ [x]) W'))
    (W : World) (hXW : X < W.heap.size) (hBs : W.heap[Bs]? = some (.cells #[.slice av len cap] 46 (0, 0)))
    (hc : ∀ j, j < len → W.cell? ⟨b, off + j * 2, none⟩ = some (.int .i64 (pAt f j).1) ∧ W.cell? ⟨b, off + j * 2 + 1, none⟩ = some (.int .i64 (pAt f j).2)) (h0 : J [] W) :
    CallsIn Fence.wide n Tryz.prog 185 #[.func (.yield l) #[] #[], .pointer (some ⟨Bs, 0, none⟩)] W fun e W' => (∃ v, e = .returned v) ∧
      ((∃ ys, ys = upTo g len ∧ J ys W') ∨ (∃ pre, (∃ k, k < len ∧ pre = upTo g (k + 1)) ∧ Jx pre W')) := by
  refine callsIn_of_wp Tryz.func185 rfl trivial ?_ rfl
  have hB0 := box1_cell hBs
  simp only [Tryz.ntmps185, List.size_toArray, List.length_cons, List.length_nil, Nat.reduceAdd, Nat.reduceSub, Array.replicate_succ, Array.replicate_zero, List.push_toArray, List.append_toArray, List.nil_append, List.cons_append]
  gi_wp2
  gi_loopw [3, 8] (fun a i wr => ∃ k : Nat, k ≤ len ∧ i = .int .i64 (k : Int) ∧ a = .int .i64 (ahd f k) ∧ Hid (J (upTo g k) wr) ∧ Hid (KpX X W wr))
    (fun _ i _ => len - (intOf i).toNat)
  case atStart => exact ⟨0, Nat.zero_le _, rfl, rfl, h0, KpX.refl _ _⟩
  case round =>
    obtain ⟨k, hk, rfl, rfl, hJs, hnx⟩ := hrel
    by_cases hkn : k < len
    · have hki : (k : Int) < (len : Int) := by omega
      have hae := hav (by omega)
      subst hae
      have hcx := hc k hkn
      have d0 := hnx.out.cell (hX (by omega)) hcx.1
      have d1 := hnx.out.cell (hX (by omega)) hcx.2
      have hs : Hid (upTo g (k + 1) = upTo g k ++ [g k]) := upTo_succ g k
      have hx := HE.out k hkn
      have hah : Hid (ahd f (k + 1) = (pAt f k).1) := ahd_succ f k
      obtain ⟨W2, hW2⟩ : ∃ W2, W2 = wr.alloc (.cells #[.int .i64 (pAt f k).1, .int .i64 (pAt f k).2] 198) := ⟨_, rfl⟩
      have hJ2 : J (upTo g k) W2 := by rw [hW2]; exact hJ _ _ _ hJs.out (World.grownBy_alloc wr _ none)
      obtain ⟨fn, tmps, assign, body, hy, hR⟩ := hY _ (g k) W2 hJ2 (by rw [upTo_len]; exact hkn)
      rw [hx] at hy
      have hbx : W2.heap[wr.heap.size]? = some (.cells #[.int .i64 (pAt f k).1, .int .i64 (pAt f k).2] 198) := by rw [hW2]; exact heap_alloc_new wr _
      have hz : Hid (X < wr.heap.size) := Nat.lt_of_lt_of_le hXW hnx.out.z
      have hk2 : Hid (KpX X W W2) := (hnx.out.trans (by rw [hW2]; exact KpX.of_below (one_new _)) : KpX X W W2)
      rw [hW2] at hy
      have HW2 : Hid (W2 = wr.alloc (.cells #[.int .i64 (pAt f k).1, .int .i64 (pAt f k).2] 198)) := hW2
      generalize (pAt f k).1 = fb at *
      generalize (pAt f k).2 = fo at *
      generalize ahd f k = fa at *
      clear hc hcx hJs HE hW2
      gi_wp2
      rw [← HW2.out]
      refine hR.mono ?_
      rintro e W3 (⟨rfl, hJ3, hk3⟩ | ⟨rfl, hJx3⟩)
      · obtain ⟨e0, -⟩ := two_cellsV (hk3.s _ _ (by have := hz.out; omega) rfl hbx)
        gi_wp2
        go_roundw
        case rel => exact ⟨k + 1, by omega, by go_num, by rw [hah.out], by rw [hs.out]; exact hJ3, hk2.out.trans hk3⟩
        case measure => simp [intOf]; omega
      · gi_wp2
        refine bodyPost_ret (results_none rfl _ _ _) rfl ?_
        exact ⟨⟨_, rfl⟩, .inr ⟨_, ⟨k, hkn, hs.out.symm⟩, hJx3⟩⟩
    · have hkn : k = len := by omega
      subst hkn
      clear hc
      gi_wp2
      go_end0
      exact ⟨⟨_, rfl⟩, .inl ⟨_, rfl, hJs.out⟩⟩
theorem forksUp_stops {α : Type} {w : World} (n : Nat) (hn : 1 ≤ n) (X Bs b off len cap : Nat) (av : Option Addr) (f : Prl) (g : Nat → α) (encs : α → Array Value) (HL : Hid (len = f.length)) (hlen : len ≤ 1000) (hX : 0 < len → b ≠ X) (hav : 0 < len → av = some ⟨b, off, none⟩ ∧ b < w.heap.size)
    (HE : Hid (∀ j, j < len → encs (g j) = #[.int .i64 (ahd f j), .agg #[.int .i64 (pAt f j).1, .int .i64 (pAt f j).2]])) (hXW : X < w.heap.size) (hBs : w.heap[Bs]? = some (.cells #[.slice av len cap] 46 (0, 0)))
    (hc : ∀ j, j < len → w.cell? ⟨b, off + j * 2, none⟩ = some (.int .i64 (pAt f j).1) ∧ w.cell? ⟨b, off + j * 2 + 1, none⟩ = some (.int .i64 (pAt f j).2)) :
    SeqStopsK Fence.wide n Tryz.prog 185 #[.pointer (some ⟨Bs, 0, none⟩)] encs (KpX X) (fun ys => ys = upTo g len) (fun pre => ∃ k, k < len ∧ pre = upTo g (k + 1)) len w :=
  fun l J Jx W hW hJ _ hY h0 => forksUp_in n hn l X Bs b off len cap av f g encs HL hlen hX (fun h => (hav h).1) HE J Jx (fun s A B h hg => hJ s A B none h hg (fun r e => by cases e)) hY W (Nat.lt_of_lt_of_le hXW hW.size) ((hW.block Bs (Array.getElem?_eq_some_iff.1 hBs).1).trans hBs)
    (fun j hj => ⟨(hW.cell (p := ⟨b, off + j * 2, none⟩) (hav (by omega)).2).trans (hc j hj).1, (hW.cell (p := ⟨b, off + j * 2 + 1, none⟩) (hav (by omega)).2).trans (hc j hj).2⟩) h0
end U
end Go.Proofs.YtdbbmclobmigdaaGreat

/- The codes that are asked of a fork, as the program tells them. -/
namespace Go.Proofs.YtdbbmclobmigdaaGreat
open Go.RowKit
namespace U
theorem blk4N {w : World} {b : Nat} {x y z u : Value} {t : TypeId} (h : w.heap[b]? = some (.cells #[x, y, z, u] t (0, 0))) : (w.cell? ⟨b, 0, none⟩ = some x ∧ w.cell? ⟨b, 1, none⟩ = some y ∧ w.cell? ⟨b, 2, none⟩ = some z ∧ w.cell? ⟨b, 3, none⟩ = some u) ∧ (w.frozen? ⟨b, 0, none⟩ = false ∧ w.frozen? ⟨b, 1, none⟩ = false ∧ w.frozen? ⟨b, 2, none⟩ = false ∧ w.frozen? ⟨b, 3, none⟩ = false) := by
  refine ⟨⟨?_, ?_, ?_, ?_⟩, ⟨?_, ?_, ?_, ?_⟩⟩
  · unfold World.cell?; rw [h]; rfl
  · unfold World.cell?; rw [h]; rfl
  · unfold World.cell?; rw [h]; rfl
  · unfold World.cell?; rw [h]; rfl
  · unfold World.frozen?; rw [h]; rfl
  · unfold World.frozen?; rw [h]; rfl
  · unfold World.frozen?; rw [h]; rfl
  · unfold World.frozen?; rw [h]; rfl
set_option maxRecDepth 100000 in
set_option maxHeartbeats 2000000 in
theorem forkCodes_low (a b o : Int) (w : World) (hb : b < 0) : Calls Tryz.prog 184 #[.int .i64 a, .agg #[.int .i64 b, .int .i64 o]] w fun e w' => e = .returned (.agg #[.int .i64 3, .bool true, .int .i64 1, .bool (decide (b ≤ a))]) ∧ Below w.heap.size w w' := by
  obtain ⟨W, hW⟩ : ∃ W, W = (w.alloc (.cells #[.int .i64 b, .int .i64 o] 198)).alloc (.cells #[.int .i64 0, .bool false, .int .i64 0, .bool false] 274) := ⟨_, rfl⟩
  have HW : Hid ((w.alloc (.cells #[.int .i64 b, .int .i64 o] 198)).alloc (.cells #[.int .i64 0, .bool false, .int .i64 0, .bool false] 274) = W) := hW.symm
  have hB : Below w.heap.size w W := by rw [hW]; exact two_new _ _
  obtain ⟨c0, c1, -, -⟩ := two_cellsV (w := W) (by rw [hW]; exact ((one_new _).block w.heap.size (by simp)).trans (heap_alloc_new w (.cells #[.int .i64 b, .int .i64 o] 198)))
  obtain ⟨⟨r0, r1, r2, r3⟩, f0, f1, f2, f3⟩ := blk4N (w := W) (b := w.heap.size + 1) (t := 274) (by
    have h := heap_alloc_new (w.alloc (.cells #[.int .i64 b, .int .i64 o] 198)) (.cells #[.int .i64 0, .bool false, .int .i64 0, .bool false] 274)
    rw [World.size_alloc] at h
    rw [hW]
    exact h)
  clear hW
  go_enter Tryz.func184, Tryz.ntmps184
  go_wp2
  rw [HW.out]
  refine wp_region_held_drew (S := fun w' => w'.cell? ⟨w.heap.size, 0, none⟩ = some (.int .i64 b) ∧ w'.cell? ⟨w.heap.size, 1, none⟩ = some (.int .i64 o)) (by kernel_rfl) ⟨c0, c1⟩ (fun hHeld => ?_)
  refine h_take (i := 0) (d := (some 5)) (v := ?va1) (by rfl) (by kernel_rfl) (by kernel_rfl) (by kernel_rfl) (fun _ _ _ h => h) (by rfl) ?hya1 hHeld ?resta1
  case hya1 =>
    intro o ho
    simp only [List.getElem?_toArray, List.getElem?_cons_zero, Option.some.injEq] at ho
    subst ho
    rintro w' ⟨s0, s1⟩
    first | (go_simp; done) | (go_simp; with_reducible rfl)
  try simp only [Act.put, List.setIfInBounds_toArray, List.set_cons_zero, List.set_cons_succ]
  refine h_take (i := 1) (d := (some 6)) (v := ?va2) (by rfl) (by kernel_rfl) (by kernel_rfl) (by kernel_rfl) (fun _ _ _ h => h) (by rfl) ?hya2 hHeld ?resta2
  case hya2 =>
    intro o ho
    simp only [List.getElem?_toArray, List.getElem?_cons_succ, List.getElem?_cons_zero, Option.some.injEq] at ho
    subst ho
    rintro w' ⟨s0, s1⟩
    first | (go_simp; done) | (go_simp; with_reducible rfl)
  try simp only [Act.put, List.setIfInBounds_toArray, List.set_cons_zero, List.set_cons_succ]
  refine h_take (i := 2) (d := (some 7)) (v := ?va3) (by rfl) (by kernel_rfl) (by kernel_rfl) (by kernel_rfl) (fun _ _ _ h => h) (by rfl) ?hya3 hHeld ?resta3
  case hya3 =>
    intro o ho
    simp only [List.getElem?_toArray, List.getElem?_cons_succ, List.getElem?_cons_zero, Option.some.injEq] at ho
    subst ho
    rintro w' ⟨s0, s1⟩
    first | (go_simp; done) | (go_simp; with_reducible rfl)
  try simp only [Act.put, List.setIfInBounds_toArray, List.set_cons_zero, List.set_cons_succ]
  refine h_take (i := 3) (d := (some 8)) (v := ?va4) (by rfl) (by kernel_rfl) (by kernel_rfl) (by kernel_rfl) (fun _ _ _ h => h) (by rfl) ?hya4 hHeld ?resta4
  case hya4 =>
    intro o ho
    simp only [List.getElem?_toArray, List.getElem?_cons_succ, List.getElem?_cons_zero, Option.some.injEq] at ho
    subst ho
    rintro w' ⟨s0, s1⟩
    first | (go_simp; done) | (go_simp; with_reducible rfl)
  try simp only [Act.put, List.setIfInBounds_toArray, List.set_cons_zero, List.set_cons_succ]
  refine h_skip (i := 4) (d := (some 9)) (by rfl) (by kernel_rfl) (by kernel_rfl) (by kernel_rfl) (fun _ _ _ h => h) (by rfl) hHeld ?_
  try simp only [Act.put, List.setIfInBounds_toArray, List.set_cons_zero, List.set_cons_succ]
  refine h_skip (i := 5) (d := (some 10)) (by rfl) (by kernel_rfl) (by kernel_rfl) (by kernel_rfl) (fun _ _ _ h => h) (by rfl) hHeld ?_
  try simp only [Act.put, List.setIfInBounds_toArray, List.set_cons_zero, List.set_cons_succ]
  refine h_skip (i := 6) (d := (some 11)) (by rfl) (by kernel_rfl) (by kernel_rfl) (by kernel_rfl) (fun _ _ _ h => h) (by rfl) hHeld ?_
  try simp only [Act.put, List.setIfInBounds_toArray, List.set_cons_zero, List.set_cons_succ]
  refine h_take (i := 7) (d := (some 12)) (v := ?va5) (by rfl) (by kernel_rfl) (by kernel_rfl) (by kernel_rfl) (fun _ _ _ h => h) (by rfl) ?hya5 hHeld ?resta5
  case hya5 =>
    intro o ho
    simp only [List.getElem?_toArray, List.getElem?_cons_succ, List.getElem?_cons_zero, Option.some.injEq] at ho
    subst ho
    rintro w' ⟨s0, s1⟩
    first | (go_simp; done) | (go_simp; with_reducible rfl)
  try simp only [Act.put, List.setIfInBounds_toArray, List.set_cons_zero, List.set_cons_succ]
  refine h_take (i := 8) (d := (some 13)) (v := ?va6) (by rfl) (by kernel_rfl) (by kernel_rfl) (by kernel_rfl) (fun _ _ _ h => h) (by rfl) ?hya6 hHeld ?resta6
  case hya6 =>
    intro o ho
    simp only [List.getElem?_toArray, List.getElem?_cons_succ, List.getElem?_cons_zero, Option.some.injEq] at ho
    subst ho
    rintro w' ⟨s0, s1⟩
    first | (go_simp; done) | (go_simp; with_reducible rfl)
  try simp only [Act.put, List.setIfInBounds_toArray, List.set_cons_zero, List.set_cons_succ]
  refine h_skip (i := 9) (d := (some 14)) (by rfl) (by kernel_rfl) (by kernel_rfl) (by kernel_rfl) (fun _ _ _ h => h) (by rfl) hHeld ?_
  try simp only [Act.put, List.setIfInBounds_toArray, List.set_cons_zero, List.set_cons_succ]
  refine h_skip (i := 10) (d := (some 15)) (by rfl) (by kernel_rfl) (by kernel_rfl) (by kernel_rfl) (fun _ _ _ h => h) (by rfl) hHeld ?_
  try simp only [Act.put, List.setIfInBounds_toArray, List.set_cons_zero, List.set_cons_succ]
  refine h_take (i := 15) (d := (some 20)) (v := ?va7) (by rfl) (by kernel_rfl) (by kernel_rfl) (by kernel_rfl) (fun _ _ _ h => h) (by rfl) ?hya7 hHeld ?resta7
  case hya7 =>
    intro o ho
    simp only [List.getElem?_toArray, List.getElem?_cons_succ, List.getElem?_cons_zero, Option.some.injEq] at ho
    subst ho
    rintro w' ⟨s0, s1⟩
    first | (go_simp; done) | (go_simp; with_reducible rfl)
  try simp only [Act.put, List.setIfInBounds_toArray, List.set_cons_zero, List.set_cons_succ]
  refine h_take (i := 16) (d := (some 21)) (v := ?va8) (by rfl) (by kernel_rfl) (by kernel_rfl) (by kernel_rfl) (fun _ _ _ h => h) (by rfl) ?hya8 hHeld ?resta8
  case hya8 =>
    intro o ho
    simp only [List.getElem?_toArray, List.getElem?_cons_succ, List.getElem?_cons_zero, Option.some.injEq] at ho
    subst ho
    rintro w' ⟨s0, s1⟩
    first | (go_simp; done) | (go_simp; with_reducible rfl)
  try simp only [Act.put, List.setIfInBounds_toArray, List.set_cons_zero, List.set_cons_succ]
  refine h_take (i := 17) (d := (some 22)) (v := ?va9) (by rfl) (by kernel_rfl) (by kernel_rfl) (by kernel_rfl) (fun _ _ _ h => h) (by rfl) ?hya9 hHeld ?resta9
  case hya9 =>
    intro o ho
    simp only [List.getElem?_toArray, List.getElem?_cons_succ, List.getElem?_cons_zero, Option.some.injEq] at ho
    subst ho
    rintro w' ⟨s0, s1⟩
    first | (go_simp; done) | (go_simp; with_reducible rfl)
  try simp only [Act.put, List.setIfInBounds_toArray, List.set_cons_zero, List.set_cons_succ]
  refine h_take (i := 18) (d := (some 23)) (v := ?va10) (by rfl) (by kernel_rfl) (by kernel_rfl) (by kernel_rfl) (fun _ _ _ h => h) (by rfl) ?hya10 hHeld ?resta10
  case hya10 =>
    intro o ho
    simp only [List.getElem?_toArray, List.getElem?_cons_succ, List.getElem?_cons_zero, Option.some.injEq] at ho
    subst ho
    rintro w' ⟨s0, s1⟩
    first | (go_simp; done) | (go_simp; with_reducible rfl)
  try simp only [Act.put, List.setIfInBounds_toArray, List.set_cons_zero, List.set_cons_succ]
  refine h_take (i := 19) (d := (some 24)) (v := ?va11) (by rfl) (by kernel_rfl) (by kernel_rfl) (by kernel_rfl) (fun _ _ _ h => h) (by rfl) ?hya11 hHeld ?resta11
  case hya11 =>
    intro o ho
    simp only [List.getElem?_toArray, List.getElem?_cons_succ, List.getElem?_cons_zero, Option.some.injEq] at ho
    subst ho
    rintro w' ⟨s0, s1⟩
    first | (go_simp; done) | (go_simp; with_reducible rfl)
  try simp only [Act.put, List.setIfInBounds_toArray, List.set_cons_zero, List.set_cons_succ]
  refine h_skip (i := 11) (d := (some 16)) (by rfl) (by kernel_rfl) (by kernel_rfl) (by kernel_rfl) (fun _ _ _ h => h) (by rfl) hHeld ?_
  try simp only [Act.put, List.setIfInBounds_toArray, List.set_cons_zero, List.set_cons_succ]
  refine h_skip (i := 12) (d := (some 17)) (by rfl) (by kernel_rfl) (by kernel_rfl) (by kernel_rfl) (fun _ _ _ h => h) (by rfl) hHeld ?_
  try simp only [Act.put, List.setIfInBounds_toArray, List.set_cons_zero, List.set_cons_succ]
  refine h_take (i := 13) (d := (some 18)) (v := ?va12) (by rfl) (by kernel_rfl) (by kernel_rfl) (by kernel_rfl) (fun _ _ _ h => h) (by rfl) ?hya12 hHeld ?resta12
  case hya12 =>
    intro o ho
    simp only [List.getElem?_toArray, List.getElem?_cons_succ, List.getElem?_cons_zero, Option.some.injEq] at ho
    subst ho
    rintro w' ⟨s0, s1⟩
    first | (go_simp; done) | (go_simp; with_reducible rfl)
  try simp only [Act.put, List.setIfInBounds_toArray, List.set_cons_zero, List.set_cons_succ]
  refine h_take (i := 14) (d := (some 19)) (v := ?va13) (by rfl) (by kernel_rfl) (by kernel_rfl) (by kernel_rfl) (fun _ _ _ h => h) (by rfl) ?hya13 hHeld ?resta13
  case hya13 =>
    intro o ho
    simp only [List.getElem?_toArray, List.getElem?_cons_succ, List.getElem?_cons_zero, Option.some.injEq] at ho
    subst ho
    rintro w' ⟨s0, s1⟩
    first | (go_simp; done) | (go_simp; with_reducible rfl)
  try simp only [Act.put, List.setIfInBounds_toArray, List.set_cons_zero, List.set_cons_succ]
  refine h_take (i := 20) (d := (some 25)) (v := ?va14) (by rfl) (by kernel_rfl) (by kernel_rfl) (by kernel_rfl) (fun _ _ _ h => h) (by rfl) ?hya14 hHeld ?resta14
  case hya14 =>
    intro o ho
    simp only [List.getElem?_toArray, List.getElem?_cons_succ, List.getElem?_cons_zero, Option.some.injEq] at ho
    subst ho
    rintro w' ⟨s0, s1⟩
    first | (go_simp; done) | (go_simp; with_reducible rfl)
  try simp only [Act.put, List.setIfInBounds_toArray, List.set_cons_zero, List.set_cons_succ]
  refine wpAnyH_ready (rs := [21]) (by kernel_rfl) (by simp) ?_
  refine AllReadyH.cons rfl (fun K hK => ?_) AllReadyH.nil
  go_simp
  try skip
  refine hK.out _ _ ?_ (fun hHeld => ?_)
  · exact ⟨by first | exact c0 | (go_simp; done), by first | exact c1 | (go_simp; done)⟩
  clear hK K
  try simp only [Act.put, List.setIfInBounds_toArray, List.set_cons_zero, List.set_cons_succ]
  refine wpAnyH_done (by kernel_rfl) ?_ _
  go_wp2
  exact bodyPost_ret (v := .agg #[.int .i64 3, .bool true, .int .i64 1, .bool (decide (b ≤ a))]) (by simp [results, Tryz.results184, go_sem, *]) rfl ⟨rfl, ((((hB.setCell (Nat.le_succ _) _).setCell (Nat.le_succ _) _).setCell (Nat.le_succ _) _).setCell (Nat.le_succ _) _).drew⟩
set_option maxRecDepth 100000 in
set_option maxHeartbeats 2000000 in
theorem forkCodes_high (a b o : Int) (w : World) (hb0 : 0 ≤ b) (hb : 8 ≤ b) : Calls Tryz.prog 184 #[.int .i64 a, .agg #[.int .i64 b, .int .i64 o]] w fun e w' => e = .returned (.agg #[.int .i64 3, .bool true, .int .i64 1, .bool (decide (b ≤ a))]) ∧ Below w.heap.size w w' := by
  have hb1 : decide (b < 0) = false := by simp; omega
  have hb2 : decide (8 ≤ b) = true := by simp; omega
  obtain ⟨W, hW⟩ : ∃ W, W = (w.alloc (.cells #[.int .i64 b, .int .i64 o] 198)).alloc (.cells #[.int .i64 0, .bool false, .int .i64 0, .bool false] 274) := ⟨_, rfl⟩
  have HW : Hid ((w.alloc (.cells #[.int .i64 b, .int .i64 o] 198)).alloc (.cells #[.int .i64 0, .bool false, .int .i64 0, .bool false] 274) = W) := hW.symm
  have hB : Below w.heap.size w W := by rw [hW]; exact two_new _ _
  obtain ⟨c0, c1, -, -⟩ := two_cellsV (w := W) (by rw [hW]; exact ((one_new _).block w.heap.size (by simp)).trans (heap_alloc_new w (.cells #[.int .i64 b, .int .i64 o] 198)))
  obtain ⟨⟨r0, r1, r2, r3⟩, f0, f1, f2, f3⟩ := blk4N (w := W) (b := w.heap.size + 1) (t := 274) (by
    have h := heap_alloc_new (w.alloc (.cells #[.int .i64 b, .int .i64 o] 198)) (.cells #[.int .i64 0, .bool false, .int .i64 0, .bool false] 274)
    rw [World.size_alloc] at h
    rw [hW]
    exact h)
  clear hW
  go_enter Tryz.func184, Tryz.ntmps184
  go_wp2
  rw [HW.out]
  refine wp_region_held_drew (S := fun w' => w'.cell? ⟨w.heap.size, 0, none⟩ = some (.int .i64 b) ∧ w'.cell? ⟨w.heap.size, 1, none⟩ = some (.int .i64 o)) (by kernel_rfl) ⟨c0, c1⟩ (fun hHeld => ?_)
  refine h_take (i := 0) (d := (some 5)) (v := ?vb1) (by rfl) (by kernel_rfl) (by kernel_rfl) (by kernel_rfl) (fun _ _ _ h => h) (by rfl) ?hyb1 hHeld ?restb1
  case hyb1 =>
    intro o ho
    simp only [List.getElem?_toArray, List.getElem?_cons_zero, Option.some.injEq] at ho
    subst ho
    rintro w' ⟨s0, s1⟩
    first | (go_simp; done) | (go_simp; with_reducible rfl)
  try simp only [Act.put, List.setIfInBounds_toArray, List.set_cons_zero, List.set_cons_succ]
  refine h_take (i := 1) (d := (some 6)) (v := ?vb2) (by rfl) (by kernel_rfl) (by kernel_rfl) (by kernel_rfl) (fun _ _ _ h => h) (by rfl) ?hyb2 hHeld ?restb2
  case hyb2 =>
    intro o ho
    simp only [List.getElem?_toArray, List.getElem?_cons_succ, List.getElem?_cons_zero, Option.some.injEq] at ho
    subst ho
    rintro w' ⟨s0, s1⟩
    first | (go_simp; done) | (go_simp; with_reducible rfl)
  try simp only [Act.put, List.setIfInBounds_toArray, List.set_cons_zero, List.set_cons_succ]
  refine h_take (i := 2) (d := (some 7)) (v := ?vb3) (by rfl) (by kernel_rfl) (by kernel_rfl) (by kernel_rfl) (fun _ _ _ h => h) (by rfl) ?hyb3 hHeld ?restb3
  case hyb3 =>
    intro o ho
    simp only [List.getElem?_toArray, List.getElem?_cons_succ, List.getElem?_cons_zero, Option.some.injEq] at ho
    subst ho
    rintro w' ⟨s0, s1⟩
    first | (go_simp; done) | (go_simp; with_reducible rfl)
  try simp only [Act.put, List.setIfInBounds_toArray, List.set_cons_zero, List.set_cons_succ]
  refine h_take (i := 3) (d := (some 8)) (v := ?vb4) (by rfl) (by kernel_rfl) (by kernel_rfl) (by kernel_rfl) (fun _ _ _ h => h) (by rfl) ?hyb4 hHeld ?restb4
  case hyb4 =>
    intro o ho
    simp only [List.getElem?_toArray, List.getElem?_cons_succ, List.getElem?_cons_zero, Option.some.injEq] at ho
    subst ho
    rintro w' ⟨s0, s1⟩
    first | (go_simp; done) | (go_simp; with_reducible rfl)
  try simp only [Act.put, List.setIfInBounds_toArray, List.set_cons_zero, List.set_cons_succ]
  refine h_take (i := 4) (d := (some 9)) (v := ?vb5) (by rfl) (by kernel_rfl) (by kernel_rfl) (by kernel_rfl) (fun _ _ _ h => h) (by rfl) ?hyb5 hHeld ?restb5
  case hyb5 =>
    intro o ho
    simp only [List.getElem?_toArray, List.getElem?_cons_succ, List.getElem?_cons_zero, Option.some.injEq] at ho
    subst ho
    rintro w' ⟨s0, s1⟩
    first | (go_simp; done) | (go_simp; with_reducible rfl)
  try simp only [Act.put, List.setIfInBounds_toArray, List.set_cons_zero, List.set_cons_succ]
  refine h_take (i := 5) (d := (some 10)) (v := ?vb6) (by rfl) (by kernel_rfl) (by kernel_rfl) (by kernel_rfl) (fun _ _ _ h => h) (by rfl) ?hyb6 hHeld ?restb6
  case hyb6 =>
    intro o ho
    simp only [List.getElem?_toArray, List.getElem?_cons_succ, List.getElem?_cons_zero, Option.some.injEq] at ho
    subst ho
    rintro w' ⟨s0, s1⟩
    first | (go_simp; done) | (go_simp; with_reducible rfl)
  try simp only [Act.put, List.setIfInBounds_toArray, List.set_cons_zero, List.set_cons_succ]
  refine h_take (i := 6) (d := (some 11)) (v := ?vb7) (by rfl) (by kernel_rfl) (by kernel_rfl) (by kernel_rfl) (fun _ _ _ h => h) (by rfl) ?hyb7 hHeld ?restb7
  case hyb7 =>
    intro o ho
    simp only [List.getElem?_toArray, List.getElem?_cons_succ, List.getElem?_cons_zero, Option.some.injEq] at ho
    subst ho
    rintro w' ⟨s0, s1⟩
    first | (go_simp; done) | (go_simp; with_reducible rfl)
  try simp only [Act.put, List.setIfInBounds_toArray, List.set_cons_zero, List.set_cons_succ]
  refine h_take (i := 7) (d := (some 12)) (v := ?vb8) (by rfl) (by kernel_rfl) (by kernel_rfl) (by kernel_rfl) (fun _ _ _ h => h) (by rfl) ?hyb8 hHeld ?restb8
  case hyb8 =>
    intro o ho
    simp only [List.getElem?_toArray, List.getElem?_cons_succ, List.getElem?_cons_zero, Option.some.injEq] at ho
    subst ho
    rintro w' ⟨s0, s1⟩
    first | (go_simp; done) | (go_simp; with_reducible rfl)
  try simp only [Act.put, List.setIfInBounds_toArray, List.set_cons_zero, List.set_cons_succ]
  refine h_take (i := 8) (d := (some 13)) (v := ?vb9) (by rfl) (by kernel_rfl) (by kernel_rfl) (by kernel_rfl) (fun _ _ _ h => h) (by rfl) ?hyb9 hHeld ?restb9
  case hyb9 =>
    intro o ho
    simp only [List.getElem?_toArray, List.getElem?_cons_succ, List.getElem?_cons_zero, Option.some.injEq] at ho
    subst ho
    rintro w' ⟨s0, s1⟩
    first | (go_simp; done) | (go_simp; with_reducible rfl)
  try simp only [Act.put, List.setIfInBounds_toArray, List.set_cons_zero, List.set_cons_succ]
  refine h_skip (i := 9) (d := (some 14)) (by rfl) (by kernel_rfl) (by kernel_rfl) (by kernel_rfl) (fun _ _ _ h => h) (by rfl) hHeld ?_
  try simp only [Act.put, List.setIfInBounds_toArray, List.set_cons_zero, List.set_cons_succ]
  refine h_skip (i := 10) (d := (some 15)) (by rfl) (by kernel_rfl) (by kernel_rfl) (by kernel_rfl) (fun _ _ _ h => h) (by rfl) hHeld ?_
  try simp only [Act.put, List.setIfInBounds_toArray, List.set_cons_zero, List.set_cons_succ]
  refine h_take (i := 15) (d := (some 20)) (v := ?vb10) (by rfl) (by kernel_rfl) (by kernel_rfl) (by kernel_rfl) (fun _ _ _ h => h) (by rfl) ?hyb10 hHeld ?restb10
  case hyb10 =>
    intro o ho
    simp only [List.getElem?_toArray, List.getElem?_cons_succ, List.getElem?_cons_zero, Option.some.injEq] at ho
    subst ho
    rintro w' ⟨s0, s1⟩
    first | (go_simp; done) | (go_simp; with_reducible rfl)
  try simp only [Act.put, List.setIfInBounds_toArray, List.set_cons_zero, List.set_cons_succ]
  refine h_take (i := 16) (d := (some 21)) (v := ?vb11) (by rfl) (by kernel_rfl) (by kernel_rfl) (by kernel_rfl) (fun _ _ _ h => h) (by rfl) ?hyb11 hHeld ?restb11
  case hyb11 =>
    intro o ho
    simp only [List.getElem?_toArray, List.getElem?_cons_succ, List.getElem?_cons_zero, Option.some.injEq] at ho
    subst ho
    rintro w' ⟨s0, s1⟩
    first | (go_simp; done) | (go_simp; with_reducible rfl)
  try simp only [Act.put, List.setIfInBounds_toArray, List.set_cons_zero, List.set_cons_succ]
  refine h_take (i := 17) (d := (some 22)) (v := ?vb12) (by rfl) (by kernel_rfl) (by kernel_rfl) (by kernel_rfl) (fun _ _ _ h => h) (by rfl) ?hyb12 hHeld ?restb12
  case hyb12 =>
    intro o ho
    simp only [List.getElem?_toArray, List.getElem?_cons_succ, List.getElem?_cons_zero, Option.some.injEq] at ho
    subst ho
    rintro w' ⟨s0, s1⟩
    first | (go_simp; done) | (go_simp; with_reducible rfl)
  try simp only [Act.put, List.setIfInBounds_toArray, List.set_cons_zero, List.set_cons_succ]
  refine h_take (i := 18) (d := (some 23)) (v := ?vb13) (by rfl) (by kernel_rfl) (by kernel_rfl) (by kernel_rfl) (fun _ _ _ h => h) (by rfl) ?hyb13 hHeld ?restb13
  case hyb13 =>
    intro o ho
    simp only [List.getElem?_toArray, List.getElem?_cons_succ, List.getElem?_cons_zero, Option.some.injEq] at ho
    subst ho
    rintro w' ⟨s0, s1⟩
    first | (go_simp; done) | (go_simp; with_reducible rfl)
  try simp only [Act.put, List.setIfInBounds_toArray, List.set_cons_zero, List.set_cons_succ]
  refine h_take (i := 19) (d := (some 24)) (v := ?vb14) (by rfl) (by kernel_rfl) (by kernel_rfl) (by kernel_rfl) (fun _ _ _ h => h) (by rfl) ?hyb14 hHeld ?restb14
  case hyb14 =>
    intro o ho
    simp only [List.getElem?_toArray, List.getElem?_cons_succ, List.getElem?_cons_zero, Option.some.injEq] at ho
    subst ho
    rintro w' ⟨s0, s1⟩
    first | (go_simp; done) | (go_simp; with_reducible rfl)
  try simp only [Act.put, List.setIfInBounds_toArray, List.set_cons_zero, List.set_cons_succ]
  refine h_skip (i := 11) (d := (some 16)) (by rfl) (by kernel_rfl) (by kernel_rfl) (by kernel_rfl) (fun _ _ _ h => h) (by rfl) hHeld ?_
  try simp only [Act.put, List.setIfInBounds_toArray, List.set_cons_zero, List.set_cons_succ]
  refine h_skip (i := 12) (d := (some 17)) (by rfl) (by kernel_rfl) (by kernel_rfl) (by kernel_rfl) (fun _ _ _ h => h) (by rfl) hHeld ?_
  try simp only [Act.put, List.setIfInBounds_toArray, List.set_cons_zero, List.set_cons_succ]
  refine h_take (i := 13) (d := (some 18)) (v := ?vb15) (by rfl) (by kernel_rfl) (by kernel_rfl) (by kernel_rfl) (fun _ _ _ h => h) (by rfl) ?hyb15 hHeld ?restb15
  case hyb15 =>
    intro o ho
    simp only [List.getElem?_toArray, List.getElem?_cons_succ, List.getElem?_cons_zero, Option.some.injEq] at ho
    subst ho
    rintro w' ⟨s0, s1⟩
    first | (go_simp; done) | (go_simp; with_reducible rfl)
  try simp only [Act.put, List.setIfInBounds_toArray, List.set_cons_zero, List.set_cons_succ]
  refine h_take (i := 14) (d := (some 19)) (v := ?vb16) (by rfl) (by kernel_rfl) (by kernel_rfl) (by kernel_rfl) (fun _ _ _ h => h) (by rfl) ?hyb16 hHeld ?restb16
  case hyb16 =>
    intro o ho
    simp only [List.getElem?_toArray, List.getElem?_cons_succ, List.getElem?_cons_zero, Option.some.injEq] at ho
    subst ho
    rintro w' ⟨s0, s1⟩
    first | (go_simp; done) | (go_simp; with_reducible rfl)
  try simp only [Act.put, List.setIfInBounds_toArray, List.set_cons_zero, List.set_cons_succ]
  refine h_take (i := 20) (d := (some 25)) (v := ?vb17) (by rfl) (by kernel_rfl) (by kernel_rfl) (by kernel_rfl) (fun _ _ _ h => h) (by rfl) ?hyb17 hHeld ?restb17
  case hyb17 =>
    intro o ho
    simp only [List.getElem?_toArray, List.getElem?_cons_succ, List.getElem?_cons_zero, Option.some.injEq] at ho
    subst ho
    rintro w' ⟨s0, s1⟩
    first | (go_simp; done) | (go_simp; with_reducible rfl)
  try simp only [Act.put, List.setIfInBounds_toArray, List.set_cons_zero, List.set_cons_succ]
  refine wpAnyH_ready (rs := [21]) (by kernel_rfl) (by simp) ?_
  refine AllReadyH.cons rfl (fun K hK => ?_) AllReadyH.nil
  go_simp
  try skip
  refine hK.out _ _ ?_ (fun hHeld => ?_)
  · exact ⟨by first | exact c0 | (go_simp; done), by first | exact c1 | (go_simp; done)⟩
  clear hK K
  try simp only [Act.put, List.setIfInBounds_toArray, List.set_cons_zero, List.set_cons_succ]
  refine wpAnyH_done (by kernel_rfl) ?_ _
  go_wp2
  exact bodyPost_ret (v := .agg #[.int .i64 3, .bool true, .int .i64 1, .bool (decide (b ≤ a))]) (by simp [results, Tryz.results184, go_sem, *]) rfl ⟨rfl, ((((hB.setCell (Nat.le_succ _) _).setCell (Nat.le_succ _) _).setCell (Nat.le_succ _) _).setCell (Nat.le_succ _) _).drew⟩
set_option maxRecDepth 100000 in
set_option maxHeartbeats 2000000 in
theorem forkCodes_mid (a b o : Int) (w : World) (hb0 : 0 ≤ b) (hb : b < 8) : Calls Tryz.prog 184 #[.int .i64 a, .agg #[.int .i64 b, .int .i64 o]] w fun e w' => e = .returned (.agg #[.int .i64 3, .bool (!sumB o), .int .i64 1, .bool (decide (b ≤ a))]) ∧ Below w.heap.size w w' := by
  have hb1 : decide (b < 0) = false := by simp; omega
  have hb2 : decide (8 ≤ b) = false := by simp; omega
  clear hb0 hb
  have hS := fun w => isSum_any o w
  generalize sumB o = y at *
  obtain ⟨W, hW⟩ : ∃ W, W = (w.alloc (.cells #[.int .i64 b, .int .i64 o] 198)).alloc (.cells #[.int .i64 0, .bool false, .int .i64 0, .bool false] 274) := ⟨_, rfl⟩
  have HW : Hid ((w.alloc (.cells #[.int .i64 b, .int .i64 o] 198)).alloc (.cells #[.int .i64 0, .bool false, .int .i64 0, .bool false] 274) = W) := hW.symm
  have hB : Below w.heap.size w W := by rw [hW]; exact two_new _ _
  obtain ⟨c0, c1, -, -⟩ := two_cellsV (w := W) (by rw [hW]; exact ((one_new _).block w.heap.size (by simp)).trans (heap_alloc_new w (.cells #[.int .i64 b, .int .i64 o] 198)))
  obtain ⟨⟨r0, r1, r2, r3⟩, f0, f1, f2, f3⟩ := blk4N (w := W) (b := w.heap.size + 1) (t := 274) (by
    have h := heap_alloc_new (w.alloc (.cells #[.int .i64 b, .int .i64 o] 198)) (.cells #[.int .i64 0, .bool false, .int .i64 0, .bool false] 274)
    rw [World.size_alloc] at h
    rw [hW]
    exact h)
  clear hW
  go_enter Tryz.func184, Tryz.ntmps184
  go_wp2
  rw [HW.out]
  refine wp_region_held_drew (S := fun w' => w'.cell? ⟨w.heap.size, 0, none⟩ = some (.int .i64 b) ∧ w'.cell? ⟨w.heap.size, 1, none⟩ = some (.int .i64 o)) (by kernel_rfl) ⟨c0, c1⟩ (fun hHeld => ?_)
  refine h_take (i := 0) (d := (some 5)) (v := ?vc1) (by rfl) (by kernel_rfl) (by kernel_rfl) (by kernel_rfl) (fun _ _ _ h => h) (by rfl) ?hyc1 hHeld ?restc1
  case hyc1 =>
    intro o ho
    simp only [List.getElem?_toArray, List.getElem?_cons_zero, Option.some.injEq] at ho
    subst ho
    rintro w' ⟨s0, s1⟩
    first | (go_simp; done) | (go_simp; with_reducible rfl)
  try simp only [Act.put, List.setIfInBounds_toArray, List.set_cons_zero, List.set_cons_succ]
  refine h_take (i := 1) (d := (some 6)) (v := ?vc2) (by rfl) (by kernel_rfl) (by kernel_rfl) (by kernel_rfl) (fun _ _ _ h => h) (by rfl) ?hyc2 hHeld ?restc2
  case hyc2 =>
    intro o ho
    simp only [List.getElem?_toArray, List.getElem?_cons_succ, List.getElem?_cons_zero, Option.some.injEq] at ho
    subst ho
    rintro w' ⟨s0, s1⟩
    first | (go_simp; done) | (go_simp; with_reducible rfl)
  try simp only [Act.put, List.setIfInBounds_toArray, List.set_cons_zero, List.set_cons_succ]
  refine h_take (i := 2) (d := (some 7)) (v := ?vc3) (by rfl) (by kernel_rfl) (by kernel_rfl) (by kernel_rfl) (fun _ _ _ h => h) (by rfl) ?hyc3 hHeld ?restc3
  case hyc3 =>
    intro o ho
    simp only [List.getElem?_toArray, List.getElem?_cons_succ, List.getElem?_cons_zero, Option.some.injEq] at ho
    subst ho
    rintro w' ⟨s0, s1⟩
    first | (go_simp; done) | (go_simp; with_reducible rfl)
  try simp only [Act.put, List.setIfInBounds_toArray, List.set_cons_zero, List.set_cons_succ]
  refine h_take (i := 3) (d := (some 8)) (v := ?vc4) (by rfl) (by kernel_rfl) (by kernel_rfl) (by kernel_rfl) (fun _ _ _ h => h) (by rfl) ?hyc4 hHeld ?restc4
  case hyc4 =>
    intro o ho
    simp only [List.getElem?_toArray, List.getElem?_cons_succ, List.getElem?_cons_zero, Option.some.injEq] at ho
    subst ho
    rintro w' ⟨s0, s1⟩
    first | (go_simp; done) | (go_simp; with_reducible rfl)
  try simp only [Act.put, List.setIfInBounds_toArray, List.set_cons_zero, List.set_cons_succ]
  refine h_take (i := 4) (d := (some 9)) (v := ?vc5) (by rfl) (by kernel_rfl) (by kernel_rfl) (by kernel_rfl) (fun _ _ _ h => h) (by rfl) ?hyc5 hHeld ?restc5
  case hyc5 =>
    intro o ho
    simp only [List.getElem?_toArray, List.getElem?_cons_succ, List.getElem?_cons_zero, Option.some.injEq] at ho
    subst ho
    rintro w' ⟨s0, s1⟩
    first | (go_simp; done) | (go_simp; with_reducible rfl)
  try simp only [Act.put, List.setIfInBounds_toArray, List.set_cons_zero, List.set_cons_succ]
  refine h_take (i := 5) (d := (some 10)) (v := ?vc6) (by rfl) (by kernel_rfl) (by kernel_rfl) (by kernel_rfl) (fun _ _ _ h => h) (by rfl) ?hyc6 hHeld ?restc6
  case hyc6 =>
    intro o ho
    simp only [List.getElem?_toArray, List.getElem?_cons_succ, List.getElem?_cons_zero, Option.some.injEq] at ho
    subst ho
    rintro w' ⟨s0, s1⟩
    first | (go_simp; done) | (go_simp; with_reducible rfl)
  try simp only [Act.put, List.setIfInBounds_toArray, List.set_cons_zero, List.set_cons_succ]
  refine h_take (i := 6) (d := (some 11)) (v := ?vc7) (by rfl) (by kernel_rfl) (by kernel_rfl) (by kernel_rfl) (fun _ _ _ h => h) (by rfl) ?hyc7 hHeld ?restc7
  case hyc7 =>
    intro o ho
    simp only [List.getElem?_toArray, List.getElem?_cons_succ, List.getElem?_cons_zero, Option.some.injEq] at ho
    subst ho
    rintro w' ⟨s0, s1⟩
    first | (go_simp; done) | (go_simp; with_reducible rfl)
  try simp only [Act.put, List.setIfInBounds_toArray, List.set_cons_zero, List.set_cons_succ]
  refine h_take (i := 7) (d := (some 12)) (v := ?vc8) (by rfl) (by kernel_rfl) (by kernel_rfl) (by kernel_rfl) (fun _ _ _ h => h) (by rfl) ?hyc8 hHeld ?restc8
  case hyc8 =>
    intro o ho
    simp only [List.getElem?_toArray, List.getElem?_cons_succ, List.getElem?_cons_zero, Option.some.injEq] at ho
    subst ho
    rintro w' ⟨s0, s1⟩
    first | (go_simp; done) | (go_simp; with_reducible rfl)
  try simp only [Act.put, List.setIfInBounds_toArray, List.set_cons_zero, List.set_cons_succ]
  refine h_take (i := 8) (d := (some 13)) (v := ?vc9) (by rfl) (by kernel_rfl) (by kernel_rfl) (by kernel_rfl) (fun _ _ _ h => h) (by rfl) ?hyc9 hHeld ?restc9
  case hyc9 =>
    intro o ho
    simp only [List.getElem?_toArray, List.getElem?_cons_succ, List.getElem?_cons_zero, Option.some.injEq] at ho
    subst ho
    rintro w' ⟨s0, s1⟩
    first | (go_simp; done) | (go_simp; with_reducible rfl)
  try simp only [Act.put, List.setIfInBounds_toArray, List.set_cons_zero, List.set_cons_succ]
  refine h_take (i := 9) (d := (some 14)) (v := ?vc10) (by rfl) (by kernel_rfl) (by kernel_rfl) (by kernel_rfl) (fun _ _ _ h => h) (by rfl) ?hyc10 hHeld ?restc10
  case hyc10 =>
    intro o ho
    simp only [List.getElem?_toArray, List.getElem?_cons_succ, List.getElem?_cons_zero, Option.some.injEq] at ho
    subst ho
    rintro w' ⟨s0, s1⟩
    first | (go_simp; done) | (go_simp; with_reducible rfl)
  try simp only [Act.put, List.setIfInBounds_toArray, List.set_cons_zero, List.set_cons_succ]
  refine h_take (i := 10) (d := (some 15)) (v := ?vc11) (by rfl) (by kernel_rfl) (by kernel_rfl) (by kernel_rfl) (fun _ _ _ h => h) (by rfl) ?hyc11 hHeld ?restc11
  case hyc11 =>
    intro o ho
    simp only [List.getElem?_toArray, List.getElem?_cons_succ, List.getElem?_cons_zero, Option.some.injEq] at ho
    subst ho
    rintro w' ⟨s0, s1⟩
    first | (go_simp; done) | (go_simp; with_reducible rfl)
  try simp only [Act.put, List.setIfInBounds_toArray, List.set_cons_zero, List.set_cons_succ]
  refine h_take (i := 15) (d := (some 20)) (v := ?vc12) (by rfl) (by kernel_rfl) (by kernel_rfl) (by kernel_rfl) (fun _ _ _ h => h) (by rfl) ?hyc12 hHeld ?restc12
  case hyc12 =>
    intro o ho
    simp only [List.getElem?_toArray, List.getElem?_cons_succ, List.getElem?_cons_zero, Option.some.injEq] at ho
    subst ho
    rintro w' ⟨s0, s1⟩
    first | (go_simp; done) | (go_simp; with_reducible rfl)
  try simp only [Act.put, List.setIfInBounds_toArray, List.set_cons_zero, List.set_cons_succ]
  refine h_take (i := 16) (d := (some 21)) (v := ?vc13) (by rfl) (by kernel_rfl) (by kernel_rfl) (by kernel_rfl) (fun _ _ _ h => h) (by rfl) ?hyc13 hHeld ?restc13
  case hyc13 =>
    intro o ho
    simp only [List.getElem?_toArray, List.getElem?_cons_succ, List.getElem?_cons_zero, Option.some.injEq] at ho
    subst ho
    rintro w' ⟨s0, s1⟩
    first | (go_simp; done) | (go_simp; with_reducible rfl)
  try simp only [Act.put, List.setIfInBounds_toArray, List.set_cons_zero, List.set_cons_succ]
  refine h_take (i := 17) (d := (some 22)) (v := ?vc14) (by rfl) (by kernel_rfl) (by kernel_rfl) (by kernel_rfl) (fun _ _ _ h => h) (by rfl) ?hyc14 hHeld ?restc14
  case hyc14 =>
    intro o ho
    simp only [List.getElem?_toArray, List.getElem?_cons_succ, List.getElem?_cons_zero, Option.some.injEq] at ho
    subst ho
    rintro w' ⟨s0, s1⟩
    first | (go_simp; done) | (go_simp; with_reducible rfl)
  try simp only [Act.put, List.setIfInBounds_toArray, List.set_cons_zero, List.set_cons_succ]
  refine h_take (i := 18) (d := (some 23)) (v := ?vc15) (by rfl) (by kernel_rfl) (by kernel_rfl) (by kernel_rfl) (fun _ _ _ h => h) (by rfl) ?hyc15 hHeld ?restc15
  case hyc15 =>
    intro o ho
    simp only [List.getElem?_toArray, List.getElem?_cons_succ, List.getElem?_cons_zero, Option.some.injEq] at ho
    subst ho
    rintro w' ⟨s0, s1⟩
    first | (go_simp; done) | (go_simp; with_reducible rfl)
  try simp only [Act.put, List.setIfInBounds_toArray, List.set_cons_zero, List.set_cons_succ]
  refine h_take (i := 19) (d := (some 24)) (v := ?vc16) (by rfl) (by kernel_rfl) (by kernel_rfl) (by kernel_rfl) (fun _ _ _ h => h) (by rfl) ?hyc16 hHeld ?restc16
  case hyc16 =>
    intro o ho
    simp only [List.getElem?_toArray, List.getElem?_cons_succ, List.getElem?_cons_zero, Option.some.injEq] at ho
    subst ho
    rintro w' ⟨s0, s1⟩
    first | (go_simp; done) | (go_simp; with_reducible rfl)
  try simp only [Act.put, List.setIfInBounds_toArray, List.set_cons_zero, List.set_cons_succ]
  refine wpAnyH_ready (rs := [11]) (by kernel_rfl) (by simp) ?_
  refine AllReadyH.cons rfl (fun K hK => ?_) AllReadyH.nil
  go_simp
  refine (hS _).mono ?_
  rintro e wq ⟨rfl, rfl⟩
  refine hK.out _ _ ?_ (fun hHeld => ?_)
  · exact ⟨by first | exact c0 | (go_simp; done), by first | exact c1 | (go_simp; done)⟩
  clear hK K
  try simp only [Act.put, List.setIfInBounds_toArray, List.set_cons_zero, List.set_cons_succ]
  refine h_take (i := 12) (d := (some 17)) (v := ?vc17) (by rfl) (by kernel_rfl) (by kernel_rfl) (by kernel_rfl) (fun _ _ _ h => h) (by rfl) ?hyc17 hHeld ?restc17
  case hyc17 =>
    intro o ho
    simp only [List.getElem?_toArray, List.getElem?_cons_succ, List.getElem?_cons_zero, Option.some.injEq] at ho
    subst ho
    rintro w' ⟨s0, s1⟩
    first | (go_simp; done) | (go_simp; with_reducible rfl)
  try simp only [Act.put, List.setIfInBounds_toArray, List.set_cons_zero, List.set_cons_succ]
  refine h_take (i := 13) (d := (some 18)) (v := ?vc18) (by rfl) (by kernel_rfl) (by kernel_rfl) (by kernel_rfl) (fun _ _ _ h => h) (by rfl) ?hyc18 hHeld ?restc18
  case hyc18 =>
    intro o ho
    simp only [List.getElem?_toArray, List.getElem?_cons_succ, List.getElem?_cons_zero, Option.some.injEq] at ho
    subst ho
    rintro w' ⟨s0, s1⟩
    first | (go_simp; done) | (go_simp; with_reducible rfl)
  try simp only [Act.put, List.setIfInBounds_toArray, List.set_cons_zero, List.set_cons_succ]
  refine h_take (i := 14) (d := (some 19)) (v := ?vc19) (by rfl) (by kernel_rfl) (by kernel_rfl) (by kernel_rfl) (fun _ _ _ h => h) (by rfl) ?hyc19 hHeld ?restc19
  case hyc19 =>
    intro o ho
    simp only [List.getElem?_toArray, List.getElem?_cons_succ, List.getElem?_cons_zero, Option.some.injEq] at ho
    subst ho
    rintro w' ⟨s0, s1⟩
    first | (go_simp; done) | (go_simp; with_reducible rfl)
  try simp only [Act.put, List.setIfInBounds_toArray, List.set_cons_zero, List.set_cons_succ]
  refine h_take (i := 20) (d := (some 25)) (v := ?vc20) (by rfl) (by kernel_rfl) (by kernel_rfl) (by kernel_rfl) (fun _ _ _ h => h) (by rfl) ?hyc20 hHeld ?restc20
  case hyc20 =>
    intro o ho
    simp only [List.getElem?_toArray, List.getElem?_cons_succ, List.getElem?_cons_zero, Option.some.injEq] at ho
    subst ho
    rintro w' ⟨s0, s1⟩
    first | (go_simp; done) | (go_simp; with_reducible rfl)
  try simp only [Act.put, List.setIfInBounds_toArray, List.set_cons_zero, List.set_cons_succ]
  refine wpAnyH_ready (rs := [21]) (by kernel_rfl) (by simp) ?_
  refine AllReadyH.cons rfl (fun K hK => ?_) AllReadyH.nil
  go_simp
  try skip
  refine hK.out _ _ ?_ (fun hHeld => ?_)
  · exact ⟨by first | exact c0 | (go_simp; done), by first | exact c1 | (go_simp; done)⟩
  clear hK K
  try simp only [Act.put, List.setIfInBounds_toArray, List.set_cons_zero, List.set_cons_succ]
  refine wpAnyH_done (by kernel_rfl) ?_ _
  go_wp2
  exact bodyPost_ret (v := .agg #[.int .i64 3, .bool (!y), .int .i64 1, .bool (decide (b ≤ a))]) (by simp [results, Tryz.results184, go_sem, *]) rfl ⟨rfl, ((((hB.setCell (Nat.le_succ _) _).setCell (Nat.le_succ _) _).setCell (Nat.le_succ _) _).setCell (Nat.le_succ _) _).drew⟩
theorem forkCodes_any (a b o : Int) (w : World) : Calls Tryz.prog 184 #[.int .i64 a, .agg #[.int .i64 b, .int .i64 o]] w fun e w' => e = .returned (.agg #[.int .i64 3, .bool (!fkB (b, o)), .int .i64 1, .bool (decide (b ≤ a))]) ∧ Below w.heap.size w w' := by
  unfold fkB
  by_cases h1 : b < 0
  · have e : inB b 0 7 = false := by unfold inB; simp; omega
    rw [e]
    exact forkCodes_low a b o w h1
  · by_cases h2 : 8 ≤ b
    · have e : inB b 0 7 = false := by unfold inB; simp; omega
      rw [e]
      exact forkCodes_high a b o w (by omega) h2
    · have e : inB b 0 7 = true := by unfold inB; simp; omega
      rw [e, Bool.true_and]
      exact forkCodes_mid a b o w (by omega) (by omega)
end U
end Go.Proofs.YtdbbmclobmigdaaGreat

/- The faults of forks, as the program finds them: an iterator that is ranged over, left by a label. -/
namespace Go.Proofs.YtdbbmclobmigdaaGreat
open Go.RowKit Go.Shelf
namespace U
attribute [local go_sem] Oper.semAt_some
theorem grown_blk {w w' : World} {row : Option Nat} {b : Nat} {o : Obj} (hg : w.grownBy w' row) (h : w.heap[b]? = some o) (hne : some b ≠ row) : w'.heap[b]? = some o := (hg.block b (Array.getElem?_eq_some_iff.1 h).1 (fun e => hne e)).trans h
/-- Up to now no fork has a code. -/
structure FI (B N : Nat) (w : World) (pre : List (Int × Int × Int)) (W : World) : Prop where
  f : W.heap[B]? = some (.cells #[.int .i64 0] 2)
  a : ∀ x ∈ pre, fk1 x.1 x.2 = 0
  b : Below B w W
  z : N ≤ W.heap.size
/-- The last one has a code. -/
structure FX (B N : Nat) (w : World) (c : Go.Code) (pre : List (Int × Int × Int)) (W : World) : Prop where
  c : c = .exit 0
  f : ∃ q pre' x, pre = pre' ++ [x] ∧ W.heap[B]? = some (.cells #[.int .i64 q] 2) ∧ q ≠ 0 ∧ (∀ x ∈ pre', fk1 x.1 x.2 = 0) ∧ fk1 x.1 x.2 = q
  b : Below B w W
  z : N ≤ W.heap.size
def gF (f : Prl) (j : Nat) : Int × Int × Int := (ahd f j, (pAt f j).1, (pAt f j).2)
theorem ups_ok {f : Prl} : ∀ {m : Nat}, (∀ x ∈ upTo (gF f) m, fk1 x.1 x.2 = 0) → fkS f m = 0
  | 0, _ => rfl
  | m + 1, h => by
    have h1 := ups_ok (f := f) (m := m) (fun x hx => h x (by rw [upTo_succ]; exact List.mem_append_left _ hx))
    rw [fkS_next h1]
    exact h (gF f m) (by rw [upTo_succ]; exact List.mem_append_right _ (List.mem_singleton.2 rfl))
theorem ups_stop {f : Prl} {k : Nat} {q : Int} {pre pre' : List (Int × Int × Int)} {x : Int × Int × Int} (hp : pre = upTo (gF f) (k + 1)) (h : pre = pre' ++ [x]) (hk : k < f.length) (ha : ∀ x ∈ pre', fk1 x.1 x.2 = 0) (hx : fk1 x.1 x.2 = q) (hq : q ≠ 0) : fkF f = q := by
  rw [hp, upTo_succ] at h
  obtain ⟨rfl, h2⟩ := List.append_inj' h rfl
  cases h2
  exact fkF_stop (ups_ok ha) hk hx hq
theorem ix0 (p q : Bool) (w : World) : (Instr.index 274 (.agg #[.int .i64 3, .bool p, .int .i64 1, .bool q]) (.int .i64 0)).run Tryz.prog w = .ok (.agg #[.int .i64 3, .bool p]) w := by kernel_rfl
theorem ix1 (p q : Bool) (w : World) : (Instr.index 274 (.agg #[.int .i64 3, .bool p, .int .i64 1, .bool q]) (.int .i64 1)).run Tryz.prog w = .ok (.agg #[.int .i64 1, .bool q]) w := by kernel_rfl
set_option maxRecDepth 100000 in
set_option maxHeartbeats 4000000 in
theorem forksFault_any (v : Value) (f : Prl) (w : World) (hv : Prs w v f) (hn : f.length ≤ 1000) : Calls Tryz.prog 178 #[v] w fun e w' => e = .returned (.int .i64 (fkF f)) ∧ Below w.heap.size w w' := by
  have hU := fun w' h => forksUp_any v f w' (hv.below (w' := w') h)
  obtain ⟨ad, c, rfl⟩ := hv.shape
  obtain ⟨len, hlp⟩ : ∃ len, len = f.length := ⟨_, rfl⟩
  have HLP : Hid (len = f.length) := hlp
  rw [← hlp] at hU hn ⊢
  clear hlp
  refine (callsIn_wide (n := 4)).1 (callsIn_of_wp_marks Tryz.func178 rfl trivial ?_ rfl)
  refine wpIn_wide.2 ?_
  simp only [Tryz.ntmps178, List.size_toArray, List.length_cons, List.length_nil, Nat.reduceAdd, Nat.reduceSub, Array.replicate_succ, Array.replicate_zero, List.push_toArray, List.append_toArray, List.nil_append, List.cons_append]
  go_wp2
  refine wp_scope_straight ?_
  go_wp2
  refine wp_label ?_
  go_wp2_with fail
  refine (hU _ (one_new _)).mono ?_
  rintro e w1 ⟨rfl, hw1⟩
  have HW1 : Hid (w1 = (w.alloc (.cells #[.int .i64 0] 2)).alloc (.cells #[.slice ad len c] 46)) := hw1
  rw [World.size_alloc]
  clear hw1 hU
  go_wp2
  have HZ1 : Hid (w1.heap.size = w.heap.size + 1 + 1) := (by rw [HW1.out]; simp : w1.heap.size = w.heap.size + 1 + 1)
  have hz1 : w.heap.size < w1.heap.size := by have := HZ1.out; omega
  have hB1 : Below w.heap.size w w1 := by rw [HW1.out]; exact two_new _ _
  have hF1 : w1.heap[w.heap.size]? = some (.cells #[.int .i64 0] 2) := by
    rw [HW1.out]
    exact ((one_new _).block w.heap.size (by simp)).trans (heap_alloc_new w _)
  have hS1 : w1.heap[w.heap.size + 1]? = some (.cells #[.slice ad len c] 46) := by
    have h1 := heap_alloc_new (w.alloc (.cells #[.int .i64 0] 2)) (.cells #[.slice ad len c] 46)
    rw [World.size_alloc] at h1
    rw [HW1.out]
    exact h1
  have HV : Hid (∃ b off, (0 < len → ad = some ⟨b, off, none⟩ ∧ b < w.heap.size) ∧ ∀ j, j < len → w.cell? ⟨b, off + j * 2, none⟩ = some (.int .i64 (pAt f j).1) ∧ w.cell? ⟨b, off + j * 2 + 1, none⟩ = some (.int .i64 (pAt f j).2)) := (by
    have hl := HLP.out
    by_cases h0 : 0 < len
    · obtain ⟨-, b, off, e, hb, hc⟩ := hv.at (by omega)
      exact ⟨b, off, fun _ => ⟨e, hb⟩, fun j hj => hc j (by omega)⟩
    · exact ⟨0, 0, fun h => absurd h h0, fun j hj => by omega⟩ : ∃ b off, _)
  obtain ⟨b, off, hav, hcc⟩ := HV.out
  clear HV hv
  refine (wpIn_wide (n := 4)).1 ?_
  refine wpIn_rangeFunc_ownH (α := Int × Int × Int) rfl (by decide) (gf := 185) (lb := #[.pointer (some ⟨w.heap.size + 1, 0, none⟩)]) rfl trivial (enters_of Tryz.func185 (by kernel_rfl) rfl)
    (forksUp_stops (w := w1) 3 (by decide) w.heap.size (w.heap.size + 1) b off len c ad f (gF f) (fun x => #[.int .i64 x.1, .agg #[.int .i64 x.2.1, .int .i64 x.2.2]]) HLP hn ?hX ?hav (fun _ _ => rfl) (by omega) hS1 ?hc)
    KpX.trans ?hKb (Below.refl _ _) (fun _ => rfl)
    (FI w.heap.size w1.heap.size w)
    (FX w.heap.size w1.heap.size w) ?hI ?hIx ?h0
    (fun x a' W => ∃ Bx, w1.heap.size ≤ Bx ∧ W.heap[Bx]? = some (.cells #[.int .i64 x.2.1, .int .i64 x.2.2] 198) ∧ a' = { tmps := #[.slice ad len c, undef, .int .i64 0, .pointer (some ⟨w.heap.size, 0, none⟩), .int .i64 x.1, .pointer (some ⟨Bx, 0, none⟩), undef, undef, .slice ad len c, .func (.func 185) #[] #[.pointer (some ⟨w.heap.size + 1, 0, none⟩)], .int .i64 x.1, .agg #[.int .i64 x.2.1, .int .i64 x.2.2], undef, undef, undef, undef, undef, undef, undef, undef, undef, undef, undef, undef], defers := [] }) ?hAx ?assign ?body ?done ?stop
  case hX => exact fun h e => by have := (hav h).2; omega
  case hav => exact fun h => ⟨(hav h).1, by have := (hav h).2; omega⟩
  case hc => exact fun j hj => ⟨(hB1.cell (p := ⟨b, off + j * 2, none⟩) (hav (by omega)).2).trans (hcc j hj).1, (hB1.cell (p := ⟨b, off + j * 2 + 1, none⟩) (hav (by omega)).2).trans (hcc j hj).2⟩
  case hKb => exact fun W l o o' _ h h1 _ => KpX.put W l o o' h h1
  case hI =>
    rintro pre A B row ⟨h1, h2, h3, h4⟩ hg hr
    exact ⟨grown_blk hg h1 (fun e => by have := (hr _ e.symm).1; have := HZ1.out; omega), h2, h3.grown hg h3.size (fun k hk => by have := (hr k hk).1; have := HZ1.out; omega), Nat.le_trans h4 hg.size⟩
  case hIx =>
    rintro c' pre A B row ⟨e, ⟨q, pre', x, h0, h1, h2, h3, h4⟩, h5, h6⟩ hg hr
    exact ⟨e, ⟨q, pre', x, h0, grown_blk hg h1 (fun e => by have := (hr _ e.symm).1; have := HZ1.out; omega), h2, h3, h4⟩, h5.grown hg h5.size (fun k hk => by have := (hr k hk).1; have := HZ1.out; omega), Nat.le_trans h6 hg.size⟩
  case h0 => exact ⟨hF1, (fun x hx => by cases hx), hB1, Nat.le_refl _⟩
  case hAx =>
    rintro x a' - A B row ⟨Bx, h1, h2, h3⟩ hg hr
    refine ⟨Bx, h1, grown_blk hg h2 (fun e => ?_), h3⟩
    obtain ⟨-, o, ho, hn⟩ := hr Bx e.symm
    rw [h2] at ho
    cases ho
    simp [Obj.isCells] at hn
  case assign =>
    rintro l' pre x W K ⟨h1, h2, h3, h4⟩ hK
    gi_wp2
    exact hK _ _ ((KeepsOthers.alloc _ _).from _) (KpX.of_below (one_new _)) ⟨((one_new _).block _ (Array.getElem?_eq_some_iff.1 h1).1).trans h1, h2, h3.alloc h3.size _, Nat.le_trans h4 (one_new _).size⟩ ⟨W.heap.size, h4, heap_alloc_new W _, rfl⟩
  case body =>
    rintro l' pre x a' W hl ⟨r, hr⟩ ⟨h1, h2, h3, h4⟩ ⟨Bx, hBx, hbk, rfl⟩ hlt
    obtain ⟨xa, xb, xo⟩ := x
    obtain ⟨k0, k1, -, -⟩ := two_cellsV hbk
    have hC := fun w => forkCodes_any xa xb xo w
    dsimp only
    obtain ⟨u, hu⟩ : ∃ u, u = !fkB (xb, xo) := ⟨_, rfl⟩
    obtain ⟨z, hz⟩ : ∃ z, z = decide (xb ≤ xa) := ⟨_, rfl⟩
    have HU : Hid (u = !fkB (xb, xo)) := hu
    have HZ : Hid (z = decide (xb ≤ xa)) := hz
    rw [← hu, ← hz] at hC
    clear hu hz
    gi_wp2_with (refine ⟨trivial, ?_⟩; gi_at_call 184; refine (CallsIn.inRound l' (callsIn_wide.2 (hC _))).mono ?_; rintro e Wc ⟨rfl, hbc⟩)
    have hKc : Hid (KeepsFrom w1.heap.size W Wc ∧ KpX w.heap.size W Wc) := ⟨⟨hbc.size, fun k o _ hk _ => (hbc.block k (Array.getElem?_eq_some_iff.1 hk).1).trans hk⟩, KpX.of_below hbc⟩
    have hFc : Wc.heap[w.heap.size]? = some (.cells #[.int .i64 0] 2) := (hbc.block _ (by omega)).trans h1
    have hBc : Hid (Below w.heap.size w Wc) := below_after_of h3 hbc
    have hzc : w1.heap.size ≤ Wc.heap.size := Nat.le_trans h4 hbc.size
    have H2 : Hid (∀ x ∈ pre, fk1 x.1 x.2 = 0) := h2
    clear hbc hbk k0 k1 h1 h2 h3 hC
    gi_loopw [15] (fun i wr => ∃ k : Nat, k ≤ 2 ∧ i = .int .i64 (k : Int) ∧ Hid (1 ≤ k → u = false) ∧ Hid (2 ≤ k → z = false) ∧ Hid (Below Wc.heap.size Wc wr)) (fun i _ => 2 - (intOf i).toNat)
    case atStart => exact ⟨0, Nat.zero_le _, rfl, (fun h => by omega), (fun h => by omega), Below.refl _ _⟩
    case round =>
      obtain ⟨k, hk, rfl, hu, hz, hB⟩ := hrel
      have hFr : wr.heap[w.heap.size]? = some (.cells #[.int .i64 0] 2) := (hB.out.block _ (by omega)).trans hFc
      have hcF := box1_cell hFr
      have hfz : wr.frozen? ⟨w.heap.size, 0, none⟩ = false := by unfold World.frozen?; rw [hFr]; rfl
      have HEX : Hid (∀ (q : Int) (o : Obj), q ≠ 0 → fk1 xa (xb, xo) = q → KeepsFrom w1.heap.size W ((wr.alloc o).setCell ⟨w.heap.size, 0, none⟩ (.int .i64 q)) ∧ FX w.heap.size w1.heap.size w (.exit 0) (pre ++ [(xa, xb, xo)]) ((wr.alloc o).setCell ⟨w.heap.size, 0, none⟩ (.int .i64 q))) := by
        intro q o hq hk1
        have hBo := hB.out.alloc hB.out.size o
        refine ⟨⟨?_, fun k ob hk hkb hno => ?_⟩, rfl, ⟨q, pre, _, rfl, ?_, hq, H2.out, hk1⟩, (below_after_of hBc.out hBo).setCell (Nat.le_refl _) _, ?_⟩
        · rw [World.size_setCell]; exact Nat.le_trans hKc.out.1.size hBo.size
        · rw [heap_setCell_other _ _ _ _ (show k ≠ w.heap.size by omega)]
          have := hKc.out.1.same k ob hk hkb hno
          exact (hBo.block k (Array.getElem?_eq_some_iff.1 this).1).trans this
        · exact heap_setCell_same _ _ 0 _ _ _ ((hBo.block _ (by omega)).trans hFc)
        · rw [World.size_setCell]; exact Nat.le_trans hzc hBo.size
      have hFa : ∀ o, (wr.alloc o).cell? ⟨w.heap.size, 0, none⟩ = some (.int .i64 0) ∧ (wr.alloc o).frozen? ⟨w.heap.size, 0, none⟩ = false := fun o => by
        have h : (wr.alloc o).heap[w.heap.size]? = some (.cells #[.int .i64 0] 2) := ((one_new _).block _ (Array.getElem?_eq_some_iff.1 hFr).1).trans hFr
        exact ⟨box1_cell h, by unfold World.frozen?; rw [h]; rfl⟩
      rcases (show k = 0 ∨ k = 1 ∨ k = 2 by omega) with rfl | rfl | rfl
      · have hi := fun w => ix0 u z w
        obtain ⟨g0, g1⟩ := hFa (.cells #[.int .i64 3, .bool true] 273)
        cases u
        · gi_wp2
          go_roundw
          case rel => exact ⟨1, by omega, rfl, (fun _ => by simp), (fun h => by omega), hB.out.alloc hB.out.size _⟩
          case measure => simp [intOf]
        · gi_wp2
          exact HEX.out 3 _ (by decide) (fk1_no (by have := HU.out; simpa using this))
      · have hi := fun w => ix1 u z w
        obtain ⟨g0, g1⟩ := hFa (.cells #[.int .i64 1, .bool true] 273)
        have hu1 : Hid (u = false) := hu.out (by omega)
        cases z
        · gi_wp2
          go_roundw
          case rel => exact ⟨2, by omega, rfl, (fun _ => hu1.out), (fun _ => by simp), hB.out.alloc hB.out.size _⟩
          case measure => simp [intOf]
        · gi_wp2
          exact HEX.out 1 _ (by decide) (fk1_low (by have := HU.out; rw [hu1.out] at this; simpa using this) (by have := HZ.out; simpa using this))
      · have hu1 := hu.out (by omega)
        have hz1 := hz.out (by omega)
        have hOK : Hid (fk1 xa (xb, xo) = 0) := fk1_ok (by have := HU.out; rw [hu1] at this; simpa using this) (by have := HZ.out; rw [hz1] at this; simpa using this)
        clear hu1 hz1 hu hz
        gi_wp2
        refine ⟨⟨Nat.le_trans hKc.out.1.size hB.out.size, fun k ob hk hkb hno => ?_⟩, hKc.out.2.trans (KpX.of_below hB.out), hFr, fun x hx => ?_, below_after_of hBc.out hB.out, Nat.le_trans hzc hB.out.size⟩
        · have := hKc.out.1.same k ob hk hkb hno
          exact (hB.out.block k (Array.getElem?_eq_some_iff.1 this).1).trans this
        · rcases List.mem_append.1 hx with hx | hx
          · exact H2.out x hx
          · rw [List.mem_singleton.1 hx]; exact hOK.out
  case done =>
    rintro D ys W hD rfl ⟨h1, h2, h3, h4⟩ hKD
    have HF0 : Hid (fkF f = 0) := (by unfold fkF; rw [← HLP.out]; exact ups_ok h2 : fkF f = 0)
    have hc0 := box1_cell h1
    have hBD : Below w.heap.size w (W.putObj D (.deferred none)) := h3.trans (belowK_b (w := w) (Nat.le_refl _) W D _ _ (by omega) hKD rfl rfl)
    clear h1 h2 hF1 hS1
    go_wp2
    refine ⟨by simp, .inl ⟨_, _, rfl, run_takeDeferred hKD, ?_⟩⟩
    exact ⟨.int .i64 0, by simp [results, Tryz.results178, go_sem], ret_int HF0.out.symm, hBD⟩
  case stop =>
    rintro D c' pre W hD ⟨k, hk, hp⟩ ⟨rfl, ⟨q, pre', x, h0, h1, h2, h3, h5⟩, h6, h7⟩ hKD
    have HFq : Hid (fkF f = q) := ups_stop hp h0 (by have := HLP.out; omega) h3 h5 h2
    have hc0 := box1_cell h1
    have hBD : Below w.heap.size w (W.putObj D (.deferred none)) := h6.trans (belowK_b (w := w) (Nat.le_refl _) W D _ _ (by omega) hKD rfl rfl)
    clear h0 h1 h2 h3 h5 hF1 hS1 hp
    refine wpIn_wide.2 ?_
    go_wp2
    refine ⟨by simp, .inl ⟨_, _, rfl, run_takeDeferred hKD, ?_⟩⟩
    exact ⟨.int .i64 q, by simp [results, Tryz.results178, go_sem], ret_int HFq.out.symm, hBD⟩
end U
end Go.Proofs.YtdbbmclobmigdaaGreat

/- The fault and the size of a trail, as the model and as the program tell them. -/
namespace Go.Proofs.YtdbbmclobmigdaaGreat
open Go.RowKit
namespace U
set_option maxRecDepth 100000 in
set_option maxHeartbeats 2000000 in
theorem l7Fault_no (p : Nat) (x : Bool) (k y : Int) (ad : Option Addr) (n c : Nat) (w : World) (H : TlBlk w p x k y (.slice ad n c)) (q : Int)
    (hq : (q = 1 ∧ x = false ∧ ((k, y) ≠ (0, 0) ∨ 0 < n)) ∨ (q = 3 ∧ fine (k, y) = false ∧ (x = true ∨ (k = 0 ∧ y = 0 ∧ n = 0))) ∨ (q = 2 ∧ fine (k, y) = true ∧ 8 < n ∧ x = true)) :
    Calls Tryz.prog 132 #[.pointer (some ⟨p, 0, none⟩)] w fun e w' => e = .returned (.int .i64 q) ∧ Below w.heap.size w w' := by
  have hK := fun w => l4Key_any k w
  have hS := fun w => l2Is4 y w
  obtain ⟨c0, c1, c2, c3⟩ := H.cells
  clear H
  rcases hq with ⟨rfl, rfl, hh⟩ | ⟨rfl, hf, rfl | ⟨rfl, rfl, rfl⟩⟩ | ⟨rfl, hf, hn, rfl⟩
  · clear hK hS
    by_cases hk : k = 0
    · subst hk
      by_cases hy : y = 0
      · subst hy
        have hn : 0 < n := by rcases hh with h | h; exact absurd rfl h; exact h
        have hni : (0 : Int) < (n : Int) := by omega
        clear hh hn
        go_enter Tryz.func132, Tryz.ntmps132
        go_wp2
        go_ret
        exact ⟨rfl, Below.refl _ _⟩
      · have hy1 : (y == 0) = false := by simpa using hy
        have hy2 : (y != 0) = true := by simpa using hy
        clear hh
        go_enter Tryz.func132, Tryz.ntmps132
        go_wp2
        go_ret
        exact ⟨rfl, Below.refl _ _⟩
    · have hk1 : (k == 0) = false := by simpa using hk
      have hk2 : (k != 0) = true := by simpa using hk
      clear hh
      go_enter Tryz.func132, Tryz.ntmps132
      go_wp2
      go_ret
      exact ⟨rfl, Below.refl _ _⟩
  · unfold fine at hf
    dsimp only at hf
    generalize inB k 0 255 = u at *
    generalize sumB y = z at *
    cases u
    · clear hS hf
      go_enter Tryz.func132, Tryz.ntmps132
      go_wp2_with fail
      refine (hK _).mono ?_
      rintro e w1 ⟨rfl, rfl⟩
      clear hK
      go_wp2
      go_ret
      exact ⟨rfl, Below.refl _ _⟩
    · obtain rfl : z = false := by simpa using hf
      clear hf
      go_enter Tryz.func132, Tryz.ntmps132
      go_wp2_with fail
      refine (hK _).mono ?_
      rintro e w1 ⟨rfl, rfl⟩
      clear hK
      go_wp2_with fail
      refine (hS _).mono ?_
      rintro e w1 ⟨rfl, rfl⟩
      clear hS
      go_wp2
      go_ret
      exact ⟨rfl, Below.refl _ _⟩
  · exact absurd hf (by decide)
  · unfold fine at hf
    dsimp only at hf
    obtain ⟨h1, h2⟩ := Bool.and_eq_true_iff.1 hf
    rw [h1] at hK
    rw [h2] at hS
    have hn8 : (8 : Int) < (n : Int) := by omega
    clear hf h1 h2
    go_enter Tryz.func132, Tryz.ntmps132
    go_wp2_with fail
    refine (hK _).mono ?_
    rintro e w1 ⟨rfl, rfl⟩
    clear hK
    go_wp2_with fail
    refine (hS _).mono ?_
    rintro e w1 ⟨rfl, rfl⟩
    clear hS
    go_wp2
    go_ret
    exact ⟨rfl, Below.refl _ _⟩
/-- The ways of a trail's fault. -/
theorem tlF_ways (x : Bool) (k y : Int) (f : Prl) : ((tlF x k y f = 1 ∧ x = false ∧ ((k, y) ≠ (0, 0) ∨ 0 < f.length)) ∨ (tlF x k y f = 3 ∧ fine (k, y) = false ∧ (x = true ∨ (k = 0 ∧ y = 0 ∧ f.length = 0))) ∨ (tlF x k y f = 2 ∧ fine (k, y) = true ∧ 8 < f.length ∧ x = true)) ∨
    (tlF x k y f = fkF f ∧ fine (k, y) = true ∧ f.length ≤ 8 ∧ (x = true ∨ (x = false ∧ k = 0 ∧ y = 0 ∧ f.length = 0))) := by
  unfold tlF
  by_cases h1 : x = false ∧ ((k, y) ≠ (0, 0) ∨ 0 < f.length)
  · rw [if_pos h1]
    exact Or.inl (Or.inl ⟨rfl, h1⟩)
  · rw [if_neg h1]
    have hx : x = true ∨ (x = false ∧ k = 0 ∧ y = 0 ∧ f.length = 0) := by
      rcases Bool.eq_false_or_eq_true x with h | h
      · exact Or.inl h
      · right
        have h4 : (k, y) = (0, 0) := Classical.byContradiction fun e => h1 ⟨h, Or.inl e⟩
        have h5 : ¬ 0 < f.length := fun e => h1 ⟨h, Or.inr e⟩
        cases h4
        exact ⟨h, rfl, rfl, by omega⟩
    rcases Bool.eq_false_or_eq_true (fine (k, y)) with h2 | h2
    · rw [if_neg (by rw [h2]; decide)]
      by_cases h3 : 8 < f.length
      · rw [if_pos h3]
        refine Or.inl (Or.inr (Or.inr ⟨rfl, h2, h3, ?_⟩))
        rcases hx with h | h
        · exact h
        · omega
      · rw [if_neg h3]
        exact Or.inr ⟨rfl, h2, by omega, hx⟩
    · rw [if_pos h2]
      refine Or.inl (Or.inr (Or.inl ⟨rfl, h2, ?_⟩))
      rcases hx with h | h
      · exact Or.inl h
      · exact Or.inr h.2
theorem l7Fault_any (p : Nat) (x : Bool) (k y : Int) (sv : Value) (f : Prl) (w : World) (H : TlBlk w p x k y sv) (hv : Prs w sv f) :
    Calls Tryz.prog 132 #[.pointer (some ⟨p, 0, none⟩)] w fun e w' => e = .returned (.int .i64 (tlF x k y f)) ∧ Below w.heap.size w w' := by
  obtain ⟨a, c, rfl⟩ := hv.shape
  rcases tlF_ways x k y f with h | ⟨h, h1, h2, h3⟩
  · exact l7Fault_no p x k y a f.length c w H _ h
  · rw [h]
    unfold fine at h1
    dsimp only at h1
    obtain ⟨h4, h5⟩ := Bool.and_eq_true_iff.1 h1
    exact l7Fault_loop p x k y a f.length c f w H hv rfl h2 h3 h4 h5
end U
end Go.Proofs.YtdbbmclobmigdaaGreat

/- The new tree as the program holds it: its values, what assertions tell of them, bits, and the fork bit. -/
namespace Go.Proofs.YtdbbmclobmigdaaGreat
open Go.RowKit
namespace U
def Tr.val (t : Tr) : Value := t.fo (.iface 249 (.agg #[])) (fun k v => .iface 216 (.agg #[.int .i64 k, .int .i64 v])) (fun b _ _ x y => .iface 223 (.agg #[.int .i64 (b : Int), x, y]))
theorem Tr.val_none : Tr.none.val = .iface 249 (.agg #[]) := rfl
theorem Tr.val_leaf (k v : Int) : (Tr.leaf k v).val = .iface 216 (.agg #[.int .i64 k, .int .i64 v]) := rfl
theorem Tr.val_fork (b : Nat) (l r : Tr) : (Tr.fork b l r).val = .iface 223 (.agg #[.int .i64 (b : Int), l.val, r.val]) := rfl
theorem Tr.isIface (t : Tr) : ∃ k x, t.val = .iface k x := by
  induction t using Tr.cs <;> exact ⟨_, _, rfl⟩
theorem three_cellsT {w : World} {g : Nat} {x y z : Value} {t : TypeId} (h : w.heap[g]? = some (.cells #[x, y, z] t)) : w.cell? ⟨g, 0, none⟩ = some x ∧ w.cell? ⟨g, 1, none⟩ = some y ∧ w.cell? ⟨g, 2, none⟩ = some z := by
  refine ⟨?_, ?_, ?_⟩
  · unfold World.cell?; rw [h]; rfl
  · unfold World.cell?; rw [h]; rfl
  · unfold World.cell?; rw [h]; rfl
theorem as_fork (x : Value) (w : World) : (Instr.typeAssert (.iface 223 x) 211 223 true).run Tryz.prog w = .ok (.tuple #[x, .bool true]) w := by kernel_rfl
theorem as_fork_leaf (x : Value) (w : World) : (Instr.typeAssert (.iface 216 x) 211 223 true).run Tryz.prog w = .ok (.tuple #[.agg #[.int .i64 0, .nilIface, .nilIface], .bool false]) w := by kernel_rfl
theorem as_fork_none (x : Value) (w : World) : (Instr.typeAssert (.iface 249 x) 211 223 true).run Tryz.prog w = .ok (.tuple #[.agg #[.int .i64 0, .nilIface, .nilIface], .bool false]) w := by kernel_rfl
theorem as_leaf (x : Value) (w : World) : (Instr.typeAssert (.iface 216 x) 211 216 true).run Tryz.prog w = .ok (.tuple #[x, .bool true]) w := by kernel_rfl
theorem as_leaf_none (x : Value) (w : World) : (Instr.typeAssert (.iface 249 x) 211 216 true).run Tryz.prog w = .ok (.tuple #[.agg #[.int .i64 0, .int .i64 0], .bool false]) w := by kernel_rfl
theorem as_leaf_fork (x : Value) (w : World) : (Instr.typeAssert (.iface 223 x) 211 216 true).run Tryz.prog w = .ok (.tuple #[.agg #[.int .i64 0, .int .i64 0], .bool false]) w := by kernel_rfl
theorem and_all : ∀ q : Fin 256, bits BinOp.and IntKind.i64 ((q.1 : Nat) : Int) 1 = ((q.1 : Nat) : Int) % 2 := by decide +kernel
theorem and_one {q : Int} (h0 : 0 ≤ q) (h1 : q ≤ 255) : bits BinOp.and IntKind.i64 q 1 = q % 2 := by
  have := and_all ⟨q.toNat, by omega⟩
  have e : ((q.toNat : Nat) : Int) = q := by omega
  simp only [e] at this
  exact this
set_option maxRecDepth 100000 in
theorem bitOf_any (k : Int) (b : Nat) (w : World) (hb : b ≤ 7) (hk : 0 ≤ k ∧ k ≤ 255) : Calls Tryz.prog 148 #[.int .i64 k, .int .i64 (b : Int)] w fun e w' => e = .returned (.int .i64 (bitN k b)) ∧ w' = w := by
  unfold bitN
  rcases (show b = 0 ∨ b = 1 ∨ b = 2 ∨ b = 3 ∨ b = 4 ∨ b = 5 ∨ b = 6 ∨ b = 7 by omega) with rfl | rfl | rfl | rfl | rfl | rfl | rfl | rfl
  all_goals
    go_enter Tryz.func148, Tryz.ntmps148
    go_wp2
    go_ret
    refine ⟨ret_int ?_, rfl⟩
    rw [and_one (by omega) (by omega)]
    simp only [Nat.reducePow]
    omega
set_option maxRecDepth 100000 in
theorem l6Bit_any (k : Int) (b : Nat) (w : World) (hb : b ≤ 7) (hk : 0 ≤ k ∧ k ≤ 255) : Calls Tryz.prog 169 #[.int .i64 k, .int .i64 (b : Int)] w fun e w' => e = .returned (.int .i64 (bitN k b)) ∧ w' = w := by
  unfold bitN
  rcases (show b = 0 ∨ b = 1 ∨ b = 2 ∨ b = 3 ∨ b = 4 ∨ b = 5 ∨ b = 6 ∨ b = 7 by omega) with rfl | rfl | rfl | rfl | rfl | rfl | rfl | rfl
  all_goals
    go_enter Tryz.func169, Tryz.ntmps169
    go_wp2
    go_ret
    refine ⟨ret_int ?_, rfl⟩
    simp only [Nat.reducePow]
    omega
theorem xor_i64 (a b : Nat) (ha : a < 256) (hb : b < 256) : bits .xor .i64 (a : Int) (b : Int) = ((a ^^^ b : Nat) : Int) := by
  have hx : a ^^^ b < 2 ^ 8 := Nat.xor_lt_two_pow (n := 8) ha hb
  have h1 : (BitVec.ofInt 64 (a : Int)).toNat = a := by
    rw [BitVec.ofInt_natCast, BitVec.toNat_ofNat]; exact Nat.mod_eq_of_lt (by omega)
  have h2 : (BitVec.ofInt 64 (b : Int)).toNat = b := by
    rw [BitVec.ofInt_natCast, BitVec.toNat_ofNat]; exact Nat.mod_eq_of_lt (by omega)
  show IntKind.i64.wrap ((BitVec.ofInt 64 (a : Int) ^^^ BitVec.ofInt 64 (b : Int)).toNat : Int) = _
  rw [BitVec.toNat_xor, h1, h2, IntKind.wrap_i64]
  omega
theorem xor_shift (a b c : Nat) : (a ^^^ b) / 2 ^ c = (a / 2 ^ c) ^^^ (b / 2 ^ c) := by
  rw [← Nat.shiftRight_eq_div_pow, ← Nat.shiftRight_eq_div_pow, ← Nat.shiftRight_eq_div_pow, Nat.shiftRight_xor_distrib]
theorem xor_zero_of {a b : Nat} (h : a ^^^ b = 0) : a = b := by
  have : a ^^^ b ^^^ b = b := by rw [h]; simp
  rw [Nat.xor_assoc, Nat.xor_self, Nat.xor_zero] at this
  exact this
/-- What two numbers have apart lies between two powers. -/
theorem xor_log {a b c : Nat} (h1 : a / 2 ^ (c + 1) = b / 2 ^ (c + 1)) (h2 : a / 2 ^ c ≠ b / 2 ^ c) : 2 ^ c ≤ a ^^^ b ∧ a ^^^ b < 2 ^ (c + 1) := by
  have e1 : (a ^^^ b) / 2 ^ (c + 1) = 0 := by rw [xor_shift, h1, Nat.xor_self]
  have e2 : (a ^^^ b) / 2 ^ c ≠ 0 := by
    rw [xor_shift]
    exact fun h => h2 (xor_zero_of h)
  have p1 := Nat.two_pow_pos (c + 1)
  have p2 := Nat.two_pow_pos c
  constructor
  · rcases Nat.lt_or_ge (a ^^^ b) (2 ^ c) with h | h
    · exact absurd (Nat.div_eq_of_lt h) e2
    · exact h
  · rcases Nat.lt_or_ge (a ^^^ b) (2 ^ (c + 1)) with h | h
    · exact h
    · have := Nat.div_pos h p1
      omega
set_option maxRecDepth 100000 in
set_option maxHeartbeats 4000000 in
theorem len64_any (x : Int) (w : World) (h0 : 0 ≤ x) (h1 : x ≤ 255) : Calls Tryz.prog 177 #[.int .u64 x] w fun e w' => e = .returned (.int .i64 (Lib.bitLen x.toNat)) ∧ w' = w := by
  have g1 : ¬ x ≥ 4294967296 := by omega
  have g2 : ¬ x ≥ 65536 := by omega
  have g3 : ¬ x ≥ 256 := by omega
  go_enter Tryz.func177, Tryz.ntmps177
  go_wp2
  go_ret
  refine ⟨ret_int ?_, rfl⟩
  rw [Lib.len8_of x h0 h1]
  have l := Lib.bitLen_le8' x h0 h1
  simp only [wrap64]
  omega
theorem bitLen_at {x c : Nat} (h1 : 2 ^ c ≤ x) (h2 : x < 2 ^ (c + 1)) (hx : x < 256) : Lib.bitLen x = c + 1 := by
  rw [Lib.bitLen_shift c x h1 (by omega)]
  have e : x / 2 ^ c = 1 := by
    have p := Nat.two_pow_pos c
    rw [Nat.pow_succ] at h2
    have h3 : 1 ≤ x / 2 ^ c := (Nat.le_div_iff_mul_le p).2 (by omega)
    have h4 : x / 2 ^ c < 2 := (Nat.div_lt_iff_lt_mul p).2 (by omega)
    omega
  rw [e]
  rfl
/-- The fork bit, out of the lowest and the highest key. -/
theorem fb_bits {l : Prl} {b : Nat} (hs : Sls l) (h2 : 2 ≤ l.length) (hb : FB l b) : ∃ x : Nat, bits .xor .i64 (pAt l 0).1 (pAt l (l.length - 1)).1 = (x : Int) ∧ x < 256 ∧ Lib.bitLen x = b + 1 := by
  have h3 := (hs.at (show 0 < l.length by omega)).1
  have h4 := (hs.at (show l.length - 1 < l.length by omega)).1
  have t := hb.top _ (pAt_mem (show l.length - 1 < l.length by omega))
  have lo := hb.lo
  have hi := hb.hi
  unfold bitN at lo hi
  generalize (pAt l 0).1 = p at *
  generalize (pAt l (l.length - 1)).1 = q at *
  obtain ⟨p, rfl⟩ : ∃ n : Nat, p = n := ⟨p.toNat, by omega⟩
  obtain ⟨q, rfl⟩ : ∃ n : Nat, q = n := ⟨q.toNat, by omega⟩
  have e1 : p / 2 ^ (b + 1) = q / 2 ^ (b + 1) := by
    rw [← Int.natCast_ediv, ← Int.natCast_ediv] at t
    omega
  have e2 : p / 2 ^ b ≠ q / 2 ^ b := by
    rw [← Int.natCast_ediv] at lo hi
    intro h
    rw [h] at lo
    omega
  have hx : p ^^^ q < 2 ^ 8 := Nat.xor_lt_two_pow (n := 8) (by omega) (by omega)
  have hl := xor_log e1 e2
  exact ⟨p ^^^ q, xor_i64 p q (by omega) (by omega), hx, bitLen_at hl.1 hl.2 hx⟩
set_option maxRecDepth 100000 in
set_option maxHeartbeats 1000000 in
theorem forkBitOf_any (v : Value) (l : Prl) (b : Nat) (w : World) (hv : Prs w v l) (hs : Sls l) (h2 : 2 ≤ l.length) (hb : FB l b) :
    Calls Tryz.prog 165 #[v] w fun e w' => e = .returned (.int .i64 (b : Int)) ∧ ∃ n, w' = w.drewN n := by
  obtain ⟨a, c, rfl⟩ := hv.shape
  obtain ⟨-, bb, off, rfl, hlt, hc⟩ := hv.at (by omega)
  obtain ⟨x, hx, hx2, hx3⟩ := fb_bits hs h2 hb
  have hn := hs.len
  have hb7 := hb.le
  have c0 := (hc 0 (by omega)).1
  have c1 := (hc (l.length - 1) (by omega)).1
  have hL := fun w => len64_any (x : Int) w (by omega) (by omega)
  rw [Int.toNat_natCast, hx3] at hL
  simp only [Nat.zero_mul, Nat.add_zero] at c0
  generalize (pAt l 0).1 = p at *
  generalize (pAt l (l.length - 1)).1 = q at *
  clear hv hs hb hc hx3
  generalize l.length = n at *
  obtain ⟨m, rfl⟩ : ∃ m, n = m + 1 := ⟨n - 1, by omega⟩
  have hm1 : 1 ≤ m := by omega
  have hm2 : m ≤ 11 := by omega
  rw [Nat.add_sub_cancel] at c1
  clear h2 hn
  go_enter Tryz.func165, Tryz.ntmps165
  go_wp2
  go_quiet (fail)
  go_wp2_with fail
  refine (hL _).mono ?_
  rintro e w1 ⟨rfl, rfl⟩
  clear hL
  go_wp2
  go_ret
  exact ⟨ret_int (by go_arith), _, rfl⟩
end U
end Go.Proofs.YtdbbmclobmigdaaGreat

/- What is summed for a node of the new tree, and its sum, as the program makes them. -/
namespace Go.Proofs.YtdbbmclobmigdaaGreat
open Go.RowKit
namespace U
/-- Which method tells the piece of a node, and of what. -/
def pcF (t : Tr) : Nat := t.fo 179 (fun _ _ => 180) (fun _ _ _ _ _ => 201)
def pcV (t : Tr) : Value := t.fo (.agg #[]) (fun k v => .agg #[.int .i64 k, .int .i64 v]) (fun b l r _ _ => .agg #[.int .i64 (b : Int), l.val, r.val])
theorem pcF_none : pcF Tr.none = 179 := rfl
theorem pcF_leaf (k v : Int) : pcF (Tr.leaf k v) = 180 := rfl
theorem pcF_fork (b : Nat) (l r : Tr) : pcF (Tr.fork b l r) = 201 := rfl
theorem pcV_none : pcV Tr.none = .agg #[] := rfl
theorem pcV_leaf (k v : Int) : pcV (Tr.leaf k v) = .agg #[.int .i64 k, .int .i64 v] := rfl
theorem pcV_fork (b : Nat) (l r : Tr) : pcV (Tr.fork b l r) = .agg #[.int .i64 (b : Int), l.val, r.val] := rfl
structure PcAt (t : Tr) : Prop where
  c : ∀ w, Calls Tryz.prog (pcF t) #[pcV t] w fun e w' => ∃ v', e = .returned v' ∧ w'.ownsRow w.heap.size 5 1 v' t.bts.length (t.bts.map (Value.int .u8)) ∧ Below w.heap.size w w'
theorem Tr.sumOf {t : Tr} (h : t.Ok) (u : Value) (w : World) (hu : Ints .u8 w u t.bts) : Calls Tryz.prog 92 #[u] w fun e w' => e = .returned (.agg #[.int .i64 0, .int .i64 t.sum]) ∧ Below w.heap.size w w' := by
  have h1 := implSumOf_any u t.bts w hu h.bts (by have := t.len; omega)
  have h2 := sm_ok (bs := t.bts) (by have := t.len; omega)
  rw [h2.1, h2.2] at h1
  exact h1
set_option maxRecDepth 100000 in
set_option maxHeartbeats 1000000 in
theorem trieSum_of {t : Tr} (h : t.Ok) (hp : PcAt t) (w : World) : Calls Tryz.prog 149 #[t.val] w fun e w' => e = .returned (.int .i64 t.sum) ∧ Below w.heap.size w w' := by
  have hP := hp.c
  have hS := fun u w hu => Tr.sumOf h u w hu
  have hf := field_IR1
  rcases t.three with rfl | ⟨k, v, rfl⟩ | ⟨b, l, r, rfl⟩
  all_goals
    simp only [pcF_none, pcF_leaf, pcF_fork, pcV_none, pcV_leaf, pcV_fork, Tr.val_none, Tr.val_leaf, Tr.val_fork] at hP ⊢
    generalize Tr.sum _ = s at *
    generalize Tr.bts _ = ys at *
    clear hp h
    try generalize Tr.val _ = vl at *
    try generalize Tr.val _ = vr at *
    go_enter Tryz.func149, Tryz.ntmps149
    go_wp2_with fail
    refine (hP _).mono ?_
    rintro e w1 ⟨u, rfl, own1, hb1⟩
    have HI := own_ints own1
    obtain ⟨a1, c1, rfl⟩ := own_shape own1
    clear hP own1
    go_wp2_with fail
    refine (hS _ _ HI).mono ?_
    rintro e w2 ⟨rfl, hb2⟩
    have hB2 := below_after_of hb1 hb2
    clear hS hb1 hb2 HI
    go_wp2
    go_ret
    exact ⟨rfl, hB2⟩
theorem three_ints (w : World) (a b c : Int) (t : TypeId) : Ints .i64 (w.alloc (.cells #[.int .i64 a, .int .i64 b, .int .i64 c] t)) (.slice (some ⟨w.heap.size, 0, none⟩) 3 3) [a, b, c] := by
  refine Or.inr ⟨w.heap.size, 0, 3, rfl, by simp, fun j hj => ?_⟩
  have hh := heap_alloc_new w (.cells #[.int .i64 a, .int .i64 b, .int .i64 c] t)
  unfold World.cell?
  rw [hh]
  rcases (show j = 0 ∨ j = 1 ∨ j = 2 by simp at hj; omega) with rfl | rfl | rfl <;> rfl
theorem tag_none : tgC 9 [] = 0 ∧ tgL 9 [] = Tr.none.bts := tg_ok rfl (by simp) rfl
theorem tag_leaf {k v : Int} (h : (Tr.leaf k v).Ok) : tgC 4 [k, v] = 0 ∧ tgL 4 [k, v] = (Tr.leaf k v).bts := tg_ok rfl (by simp) (Tr.Ok.nums2 h.1 h.2)
theorem tag_fork {b : Nat} {l r : Tr} (h : (Tr.fork b l r).Ok) : tgC 5 [(b : Int), l.sum, r.sum] = 0 ∧ tgL 5 [(b : Int), l.sum, r.sum] = (Tr.fork b l r).bts := tg_ok rfl (by simp) (Tr.Ok.nums3 h.1 l r)
set_option maxRecDepth 100000 in
set_option maxHeartbeats 1000000 in
theorem piece_none : PcAt .none := by
  refine ⟨fun w => ?_⟩
  have hT := fun w => implTagBytes_any 9 (.slice none 0 0) [] w (Or.inl ⟨rfl, _, _, rfl⟩) (by simp)
  rw [tag_none.1, tag_none.2] at hT
  simp only [pcF_none, pcV_none]
  generalize Tr.bts _ = ys at *
  go_enter Tryz.func179, Tryz.ntmps179
  go_wp2_with fail
  refine (hT _).mono ?_
  intro e w2 h2
  obtain ⟨a2, c2, rfl, hb2, own2⟩ := h2.use
  have kf := fun w => field_BR1 0 a2 ys.length c2 w
  have hB2 := below_after hb2
  rw [World.size_alloc] at own2
  have own3 := own_mono own2 (show w.heap.size ≤ w.heap.size + 1 by omega)
  clear hT h2
  go_wp2
  go_ret
  exact ⟨_, rfl, own3, hB2⟩
set_option maxRecDepth 100000 in
set_option maxHeartbeats 1000000 in
theorem piece_leaf {k v : Int} (h : (Tr.leaf k v).Ok) : PcAt (.leaf k v) := by
  refine ⟨fun w => ?_⟩
  have hT := fun u w hu => implTagBytes_any 4 u [k, v] w hu (by simp)
  rw [(tag_leaf h).1, (tag_leaf h).2] at hT
  simp only [pcF_leaf, pcV_leaf]
  generalize Tr.bts _ = ys at *
  clear h
  go_enter Tryz.func180, Tryz.ntmps180
  go_wp2_with fail
  refine (hT _ _ (two_ints_at (by simp))).mono ?_
  intro e w2 h2
  obtain ⟨a2, c2, rfl, hb2, own2⟩ := h2.use
  have kf := fun w => field_BR1 0 a2 ys.length c2 w
  have hB2 := below_after (below_after hb2)
  rw [World.size_alloc, World.size_alloc] at own2
  have own3 := own_mono own2 (show w.heap.size ≤ w.heap.size + 1 + 1 by omega)
  clear hT h2
  go_wp2
  go_ret
  exact ⟨_, rfl, own3, hB2⟩
/-- The sum of a node's value. -/
structure SmAt (v : Value) (s : Int) : Prop where
  c : ∀ w, Calls Tryz.prog 149 #[v] w fun e w' => e = .returned (.int .i64 s) ∧ Below w.heap.size w w'
set_option maxRecDepth 100000 in
set_option maxHeartbeats 2000000 in
theorem piece_fork {b : Nat} {l r : Tr} (h : (Tr.fork b l r).Ok) (h1 : SmAt l.val l.sum) (h2 : SmAt r.val r.sum) : PcAt (.fork b l r) := by
  refine ⟨fun w => ?_⟩
  have hT := fun u w hu => implTagBytes_any 5 u [(b : Int), l.sum, r.sum] w hu (by simp)
  rw [(tag_fork h).1, (tag_fork h).2] at hT
  simp only [pcF_fork, pcV_fork]
  generalize Tr.bts _ = ys at *
  generalize l.val = vl at *
  generalize r.val = vr at *
  generalize l.sum = x at *
  generalize r.sum = y at *
  clear h
  have A0 := three_cellsT (heap_alloc_new w (.cells #[.int .i64 (b : Int), vl, vr] 223))
  obtain ⟨W, hW⟩ : ∃ W, W = w.alloc (.cells #[.int .i64 (b : Int), vl, vr] 223) := ⟨_, rfl⟩
  have hBW : Hid (Below w.heap.size w W) := by rw [hW]; exact one_new _
  have hlt : w.heap.size < W.heap.size := by rw [hW]; simp
  rw [← hW] at A0
  have HW : Hid (w.alloc (.cells #[.int .i64 (b : Int), vl, vr] 223) = W) := hW.symm
  have HG : Hid (∀ w', Below W.heap.size W w' → w'.cell? ⟨w.heap.size, 0, none⟩ = some (.int .i64 (b : Int)) ∧ w'.cell? ⟨w.heap.size, 1, none⟩ = some vl ∧ w'.cell? ⟨w.heap.size, 2, none⟩ = some vr) := fun w' h => ⟨(h.cell (p := ⟨w.heap.size, 0, none⟩) hlt).trans A0.1, (h.cell (p := ⟨w.heap.size, 1, none⟩) hlt).trans A0.2.1, (h.cell (p := ⟨w.heap.size, 2, none⟩) hlt).trans A0.2.2⟩
  obtain ⟨c0, c1, c2⟩ := A0
  have hbr := Below.refl W.heap.size W
  clear hW
  go_enter Tryz.func201, Tryz.ntmps201
  go_wp2
  rw [HW.out]
  go_region_held3 (fun w' => w'.cell? ⟨w.heap.size, 0, none⟩ = some (.int .i64 (b : Int)) ∧ w'.cell? ⟨w.heap.size, 1, none⟩ = some vl ∧ w'.cell? ⟨w.heap.size, 2, none⟩ = some vr)
    (first | exact ⟨c0, c1, c2⟩ | exact HG.out _ hbr | exact HG.out _ (hbr.alloc hbr.size _))
    (first
      | (go_at_call 149; refine (SmAt.c (by assumption) _).mono ?_; rintro e wq ⟨rfl, hbq⟩; have hbr : Below W.heap.size W wq := (by first | exact below_after_of hbr hbq | exact below_after_of hbr.drew hbq))
      | (go_at_call 154; refine (hT _ _ (three_ints _ _ _ _ _)).mono ?_; intro e wt ht; obtain ⟨at', ct', rfl, hbt, own2⟩ := ht.use; rw [World.size_alloc] at own2; have own3 := own_mono own2 (Nat.le_succ_of_le (Nat.le_trans (Nat.le_of_lt hlt) hbr.size)); have hbr : Below W.heap.size W wt := below_after_of (hbr.alloc hbr.size _) hbt; have kf := fun w => field_BR1 0 at' ys.length ct' w))
  have hB3 := below_after_of hBW.out hbr
  go_wp2
  go_ret
  exact ⟨_, rfl, own3, hB3⟩
theorem piece_any (t : Tr) : t.Ok → PcAt t := by
  induction t using Tr.ind with
  | none => exact fun _ => piece_none
  | leaf k v => exact fun h => piece_leaf h
  | fork b l r ih1 ih2 => exact fun h => piece_fork h ⟨fun w => trieSum_of h.2.1 (ih1 h.2.1) w⟩ ⟨fun w => trieSum_of h.2.2 (ih2 h.2.2) w⟩
theorem trieSum_any {t : Tr} (h : t.Ok) : SmAt t.val t.sum := ⟨fun w => trieSum_of h (piece_any t h) w⟩
end U
end Go.Proofs.YtdbbmclobmigdaaGreat

/- The fork bit and a side of slots, as the model makes them. -/
namespace Go.Proofs.YtdbbmclobmigdaaGreat
open Go.RowKit
namespace U
def sdAt (l : Prl) (b : Nat) (s : Int) (k : Nat) : Prl := sd (l.take k) b s
theorem sdAt_all (l : Prl) (b : Nat) (s : Int) : sdAt l b s l.length = sd l b s := by unfold sdAt; rw [List.take_length]
theorem sdAt_in {l : Prl} {b : Nat} {s : Int} {k : Nat} (h : k < l.length) (h1 : bitN (pAt l k).1 b = s) : sdAt l b s (k + 1) = sdAt l b s k ++ [pAt l k] := by
  unfold sdAt sd
  rw [takeP h, List.filter_append, List.filter_cons_of_pos (by simp [h1])]
  rfl
theorem sdAt_out {l : Prl} {b : Nat} {s : Int} {k : Nat} (h : k < l.length) (h1 : ¬ bitN (pAt l k).1 b = s) : sdAt l b s (k + 1) = sdAt l b s k := by
  unfold sdAt sd
  rw [takeP h, List.filter_append, List.filter_cons_of_neg (by simp [h1])]
  simp
theorem sdAt_len (l : Prl) (b : Nat) (s : Int) (k : Nat) : (sdAt l b s k).length ≤ l.length := by
  have h1 := sd_len (l.take k) b s
  rw [List.length_take] at h1
  unfold sdAt
  omega
/-- All keys are the same above a bit. -/
def Top (l : Prl) (k : Nat) : Prop := ∀ p ∈ l, p.1 / (2 ^ (k + 1) : Nat) = (pAt l 0).1 / (2 ^ (k + 1) : Nat)
theorem top_seven {l : Prl} (hs : Sls l) (h0 : 0 < l.length) : Top l 7 := by
  intro p hp
  have h1 := (fine_bd (hs.fin p hp)).1
  have h2 := (hs.at h0).1
  show p.1 / 256 = _ / 256
  omega
theorem top_down {l : Prl} {k : Nat} (h : Top l (k + 1)) (hb : ∀ j, j < l.length → bitN (pAt l j).1 (k + 1) = bitN (pAt l 0).1 (k + 1)) : Top l k := by
  intro p hp
  obtain ⟨i, hi, rfl⟩ := List.getElem_of_mem hp
  have h1 := h _ hp
  have h2 := hb i hi
  rw [pAt_eq hi] at h2
  unfold bitN at h2
  rw [div_succ _ (k + 1), div_succ (pAt l 0).1 (k + 1)] at h1
  omega
theorem top_found {l : Prl} {k i : Nat} (hs : Sls l) (hk : k ≤ 7) (h : Top l k) (hi : i < l.length) (h2 : 2 ≤ l.length) (hd : bitN (pAt l i).1 k ≠ bitN (pAt l 0).1 k) : FB l k := by
  refine fb_of hs.ris hk h2 (h _ (pAt_mem (by omega))).symm ?_
  intro e
  apply hd
  have h4 := ediv_le (ris_first hs.ris (pAt_mem hi)) k
  have h5 := ediv_le (ris_last hs.ris (pAt_mem hi)) k
  unfold bitN
  rw [show (pAt l i).1 / (2 ^ k : Nat) = (pAt l 0).1 / (2 ^ k : Nat) by omega]
theorem top_zero {l : Prl} (hs : Sls l) (h : Top l 0) (h2 : 2 ≤ l.length) : FB l 0 := by
  refine fb_of hs.ris (by omega) h2 (h _ (pAt_mem (by omega))).symm ?_
  have h3 := ris_at hs.ris (show 0 < l.length - 1 by omega) (by omega)
  show _ / 1 ≠ _ / 1
  omega
/-- A bit, as the model tells it. -/
structure BtAt (k b z : Int) : Prop where
  c : ∀ w, Calls Tryz.prog 169 #[.int .i64 k, .int .i64 b] w fun e w' => e = .returned (.int .i64 z) ∧ w' = w
end U
end Go.Proofs.YtdbbmclobmigdaaGreat

/- The sum at a fork, as the program makes it; what is summed for a fork, as the model makes it. -/
namespace Go.Proofs.YtdbbmclobmigdaaGreat
open Go.RowKit
namespace U
theorem nd_tag {key b o s : Int} (hb : 0 ≤ b ∧ b ≤ 7) (ho : 0 ≤ o ∧ o ≤ 65520) (hs : 0 ≤ s ∧ s ≤ 65520) : tgC 5 (ndL key b o s) = 0 ∧ tsV 5 (ndL key b o s) = ndS key b o s := by
  have h := tg_ok (tag := 5) (xs := ndL key b o s) rfl (by rw [ndL_len]; omega) (ndL_ok hb ho hs)
  refine ⟨h.1, ?_⟩
  unfold tsV
  rw [if_pos h.1, h.2]
  rfl
theorem three_ints_at {w : World} {n : Nat} {a b c : Int} {t : TypeId} (hn : w.heap.size = n) : Ints .i64 (w.alloc (.cells #[.int .i64 a, .int .i64 b, .int .i64 c] t)) (.slice (some ⟨n, 0, none⟩) 3 3) [a, b, c] := by
  subst hn
  exact three_ints w a b c t
set_option maxRecDepth 100000 in
set_option maxHeartbeats 2000000 in
theorem forkBytes_any (key b o s : Int) (w : World) (hk : 0 ≤ key ∧ key ≤ 255) (hb : 0 ≤ b ∧ b ≤ 7) (ho : 0 ≤ o ∧ o ≤ 65520) (hs : 0 ≤ s ∧ s ≤ 65520) :
    Calls Tryz.prog 182 #[.int .i64 key, .agg #[.int .i64 b, .int .i64 o], .int .i64 s] w fun e w' => ∃ a c, e = .returned (.slice a (tagL 5 (ndL key b o s)).length c) ∧ Below w.heap.size w w' ∧ w'.ownsRow w.heap.size 5 1 (.slice a (tagL 5 (ndL key b o s)).length c) (tagL 5 (ndL key b o s)).length ((tagL 5 (ndL key b o s)).map (Value.int .u8)) := by
  have hB := fun w => bitOf_any key b.toNat w (by omega) hk
  have hT := fun u w hu => implTagBytes_any 5 u (ndL key b o s) w hu (by rw [ndL_len]; omega)
  have htg := tg_ok (tag := 5) (xs := ndL key b o s) rfl (by rw [ndL_len]; omega) (ndL_ok hb ho hs)
  rw [htg.1, htg.2] at hT
  rw [show ((b.toNat : Nat) : Int) = b by omega] at hB
  unfold ndL at hT ⊢
  clear htg
  rcases bitN_bd key b.toNat with hz | hz
  · rw [hz] at hB hT ⊢
    rw [if_pos rfl] at hT ⊢
    generalize tagL 5 [b, s, o] = ys at *
    clear hz
    go_enter Tryz.func182, Tryz.ntmps182
    go_wp2_with fail
    refine (hB _).mono ?_
    rintro e w1 ⟨rfl, rfl⟩
    clear hB
    go_wp2
    go_region
    go_wp2_with fail
    refine (hT _ _ ((three_ints_at (n := w.heap.size + 1 + 1) (by simp)).below (Below.refl _ _).drew)).mono ?_
    intro e w2 h2
    obtain ⟨a2, c2, rfl, hb2, own2⟩ := h2.use
    have kf := fun w => field_BR1 0 a2 ys.length c2 w
    have hB2 : Below w.heap.size w w2 := below_after_of ((((one_new _).alloc (one_new _).size _).alloc ((one_new _).alloc (one_new _).size _).size _).drew) hb2
    have HO : w2.ownsRow w.heap.size 5 1 (.slice a2 ys.length c2) ys.length (ys.map (Value.int .u8)) := own_mono own2 (show w.heap.size ≤ _ by simp; omega)
    clear hT hb2 h2 own2
    go_wp2
    go_ret
    exact ⟨_, _, rfl, hB2, HO⟩
  · rw [hz] at hB hT ⊢
    rw [if_neg (by decide)] at hT ⊢
    generalize tagL 5 [b, o, s] = ys at *
    clear hz
    go_enter Tryz.func182, Tryz.ntmps182
    go_wp2_with fail
    refine (hB _).mono ?_
    rintro e w1 ⟨rfl, rfl⟩
    clear hB
    go_wp2
    go_region
    go_wp2_with fail
    refine (hT _ _ ((three_ints_at (n := w.heap.size + 1 + 1) (by simp)).below (Below.refl _ _).drew)).mono ?_
    intro e w2 h2
    obtain ⟨a2, c2, rfl, hb2, own2⟩ := h2.use
    have kf := fun w => field_BR1 0 a2 ys.length c2 w
    have hB2 : Below w.heap.size w w2 := below_after_of ((((one_new _).alloc (one_new _).size _).alloc ((one_new _).alloc (one_new _).size _).size _).drew) hb2
    have HO : w2.ownsRow w.heap.size 5 1 (.slice a2 ys.length c2) ys.length (ys.map (Value.int .u8)) := own_mono own2 (show w.heap.size ≤ _ by simp; omega)
    clear hT hb2 h2 own2
    go_wp2
    go_ret
    exact ⟨_, _, rfl, hB2, HO⟩
set_option maxRecDepth 100000 in
set_option maxHeartbeats 2000000 in
theorem l7Node_any (key b o s : Int) (p off : Nat) (w : World) (hk : 0 ≤ key ∧ key ≤ 255) (hb : 0 ≤ b ∧ b ≤ 7) (ho : 0 ≤ o ∧ o ≤ 65520) (hs : 0 ≤ s ∧ s ≤ 65520) (hlt : p < w.heap.size)
    (c0 : w.cell? ⟨p, off, none⟩ = some (.int .i64 b)) (c1 : w.cell? ⟨p, off + 1, none⟩ = some (.int .i64 o)) :
    Calls Tryz.prog 156 #[.int .i64 key, .pointer (some ⟨p, off, none⟩), .int .i64 s] w fun e w' => ∃ a c, e = .returned (.slice a (tagL 5 (ndL key b o s)).length c) ∧ Below w.heap.size w w' ∧ w'.ownsRow w.heap.size 5 1 (.slice a (tagL 5 (ndL key b o s)).length c) (tagL 5 (ndL key b o s)).length ((tagL 5 (ndL key b o s)).map (Value.int .u8)) := by
  have hB := fun w => l6Bit_any key b.toNat w (by omega) hk
  have hT := fun u w hu => l2Bytes_any 5 u (ndL key b o s) w hu (by rw [ndL_len]; omega) (by omega) (ndL_ok hb ho hs)
  rw [show ((b.toNat : Nat) : Int) = b by omega] at hB
  have HC : Hid (∀ w', Below w.heap.size w w' → w'.cell? ⟨p, off, none⟩ = some (.int .i64 b) ∧ w'.cell? ⟨p, off + 1, none⟩ = some (.int .i64 o)) := fun w' h => ⟨(h.cell (p := ⟨p, off, none⟩) hlt).trans c0, (h.cell (p := ⟨p, off + 1, none⟩) hlt).trans c1⟩
  have hbr := Below.refl w.heap.size w
  rcases bitN_bd key b.toNat with hz | hz
  · have e1 : ndL key b o s = [b, s, o] := by unfold ndL; rw [hz, if_pos rfl]
    rw [hz] at hB
    rw [e1] at hT ⊢
    generalize tagL 5 [b, s, o] = ys at *
    clear hz e1
    go_enter Tryz.func156, Tryz.ntmps156
    go_wp2_with fail
    refine (hB _).mono ?_
    rintro e w1 ⟨rfl, rfl⟩
    clear hB
    go_wp2
    go_region_held3 (fun w' => w'.cell? ⟨p, off, none⟩ = some (.int .i64 b) ∧ w'.cell? ⟨p, off + 1, none⟩ = some (.int .i64 o))
      (first | exact ⟨c0, c1⟩ | exact HC.out _ hbr | exact HC.out _ hbr.drew | exact HC.out _ (hbr.alloc hbr.size _) | exact HC.out _ (hbr.alloc hbr.size _).drew | exact HC.out _ (hbr.drew.alloc hbr.drew.size _))
      (first
        | (go_at_call 126; refine (hT _ _ (by first | exact three_ints_at rfl | exact (three_ints_at rfl).below (Below.refl _ _).drew)).mono ?_; rintro e wt ⟨vt, rfl, ot, hbt⟩; have hbr : Below w1.heap.size w1 wt := (by first | exact below_after_of (hbr.alloc hbr.size _) hbt | exact below_after_of (hbr.alloc hbr.size _).drew hbt | exact below_after_of (hbr.drew.alloc hbr.drew.size _) hbt)))
    obtain ⟨at', ct', rfl⟩ := own_shape ot
    have own3 := own_mono ot (show w1.heap.size ≤ _ by simp)
    have HO : Hid (wt.ownsRow w1.heap.size 5 1 (.slice at' ys.length ct') ys.length (ys.map (Value.int .u8))) := own3
    clear hT ot own3
    go_wp2
    go_ret
    exact ⟨_, _, rfl, hbr, HO.out⟩
  · have e1 : ndL key b o s = [b, o, s] := by unfold ndL; rw [hz, if_neg (by decide)]
    rw [hz] at hB
    rw [e1] at hT ⊢
    generalize tagL 5 [b, o, s] = ys at *
    clear hz e1
    go_enter Tryz.func156, Tryz.ntmps156
    go_wp2_with fail
    refine (hB _).mono ?_
    rintro e w1 ⟨rfl, rfl⟩
    clear hB
    go_wp2
    go_region_held3 (fun w' => w'.cell? ⟨p, off, none⟩ = some (.int .i64 b) ∧ w'.cell? ⟨p, off + 1, none⟩ = some (.int .i64 o))
      (first | exact ⟨c0, c1⟩ | exact HC.out _ hbr | exact HC.out _ hbr.drew | exact HC.out _ (hbr.alloc hbr.size _) | exact HC.out _ (hbr.alloc hbr.size _).drew | exact HC.out _ (hbr.drew.alloc hbr.drew.size _))
      (first
        | (go_at_call 126; refine (hT _ _ (by first | exact three_ints_at rfl | exact (three_ints_at rfl).below (Below.refl _ _).drew)).mono ?_; rintro e wt ⟨vt, rfl, ot, hbt⟩; have hbr : Below w1.heap.size w1 wt := (by first | exact below_after_of (hbr.alloc hbr.size _) hbt | exact below_after_of (hbr.alloc hbr.size _).drew hbt | exact below_after_of (hbr.drew.alloc hbr.drew.size _) hbt)))
    obtain ⟨at', ct', rfl⟩ := own_shape ot
    have own3 := own_mono ot (show w1.heap.size ≤ _ by simp)
    have HO : Hid (wt.ownsRow w1.heap.size 5 1 (.slice at' ys.length ct') ys.length (ys.map (Value.int .u8))) := own3
    clear hT ot own3
    go_wp2
    go_ret
    exact ⟨_, _, rfl, hbr, HO.out⟩
end U
end Go.Proofs.YtdbbmclobmigdaaGreat

/- What comes of climbing a trail, as the model finds it. -/
namespace Go.Proofs.YtdbbmclobmigdaaGreat
open Go.RowKit
namespace U
set_option maxRecDepth 100000 in
set_option maxHeartbeats 1000000 in
theorem l2Tag9_any (a : Option Addr) (c : Nat) (w : World) : Calls Tryz.prog 155 #[.int .i64 9, .slice a 0 c] w fun e w' => e = .returned (.int .i64 (sumL (tagL 9 []))) ∧ Below w.heap.size w w' := by
  have hB := fun w h => l2Bytes_any 9 (.slice a 0 c) [] w h (by simp) (by omega) rfl
  have hS := fun v w h => l2Sum_any v (tagL 9 []) w h (tagL_bts (by omega) rfl) (by rw [tagL_len]; simp)
  generalize sumL (tagL 9 []) = s at *
  generalize tagL 9 [] = ys at *
  go_enter Tryz.func155, Tryz.ntmps155
  go_wp2_with fail
  refine (hB _ (Or.inl ⟨rfl, _, _, rfl⟩)).mono ?_
  rintro e w1 ⟨v', rfl, own1, hb1⟩
  have HI : Hid (Ints .u8 w1 v' ys) := own_ints own1
  obtain ⟨a1, c1, rfl⟩ := own_shape own1
  clear hB own1
  go_wp2_with fail
  refine (hS _ _ HI.out).mono ?_
  rintro e w2 ⟨rfl, rfl⟩
  clear hS
  go_wp2
  go_ret
  exact ⟨rfl, hb1⟩
set_option maxRecDepth 100000 in
set_option maxHeartbeats 1000000 in
theorem l7Climb_none (key : Int) (p : Nat) (k y : Int) (sv : Value) (n : Int) (w : World) (H : TlBlk w p false k y sv) :
    Calls Tryz.prog 133 #[.int .i64 key, .pointer (some ⟨p, 0, none⟩), .int .i64 n] w fun e w' => e = .returned (.int .i64 (sumL (tagL 9 []))) ∧ Below w.heap.size w w' := by
  have hT := fun w => l2Tag9_any none 0 w
  obtain ⟨c0, c1, c2, c3⟩ := H.cells
  clear H
  generalize sumL (tagL 9 []) = s at *
  go_enter Tryz.func133, Tryz.ntmps133
  go_wp2_with fail
  refine (hT _).mono ?_
  rintro e w1 ⟨rfl, hb1⟩
  clear hT
  go_wp2
  go_ret
  exact ⟨rfl, hb1⟩
set_option maxRecDepth 100000 in
set_option maxHeartbeats 2000000 in
theorem l7Climb_some (key : Int) (p : Nat) (k y : Int) (ad : Option Addr) (len c m : Nat) (f : Prl) (w : World) (H : TlBlk w p true k y (.slice ad len c)) (hv : Prs w (.slice ad len c) f) (HN : Hid (len = f.length)) (hk : 0 ≤ key ∧ key ≤ 255)
    (hkk : 0 ≤ k ∧ k ≤ 255) (hy : 0 ≤ y ∧ y ≤ 65520) (hm : m ≤ len) (hlen : len ≤ 8) (hfk : fkF f = 0) :
    Calls Tryz.prog 133 #[.int .i64 key, .pointer (some ⟨p, 0, none⟩), .int .i64 (m : Int)] w fun e w' => e = .returned (.int .i64 (clmN key f (lfS true k y) m)) ∧ Below w.heap.size w w' := by
  have hT := fun u w hu => l2Tag2_any 4 k y u w (by omega) hu (by omega) hy
  have HLF : Hid (sumL (tagL 4 [k, y]) = lfS true k y) := rfl
  obtain ⟨c0, c1, c2, c3⟩ := H.cells
  have hp := H.lt
  have HH : Hid (∀ w', Below w.heap.size w w' → TlBlk w' p true k y (.slice ad len c)) := fun w' h => H.below h
  have HC : Hid (∀ w', Below w.heap.size w w' → w'.cell? ⟨p, 1, none⟩ = some (.int .i64 k) ∧ w'.cell? ⟨p, 2, none⟩ = some (.int .i64 y)) := fun w' h => ⟨(HH.out w' h).cells.2.1, (HH.out w' h).cells.2.2.1⟩
  have HV : Hid (0 < len → ∃ b off, ad = some ⟨b, off, none⟩ ∧ b < w.heap.size ∧ ∀ j, j < len → w.cell? ⟨b, off + j * 2, none⟩ = some (.int .i64 (pAt f j).1) ∧ w.cell? ⟨b, off + j * 2 + 1, none⟩ = some (.int .i64 (pAt f j).2)) := (fun h0 => by
    have hl := HN.out
    obtain ⟨-, b, off, e, hb, hc⟩ := hv.at (by omega)
    exact ⟨b, off, e, hb, fun j hj => hc j (by omega)⟩ : 0 < len → _)
  have HFK : Hid (∀ j, j < len → (0 ≤ (pAt f j).1 ∧ (pAt f j).1 ≤ 7) ∧ (0 ≤ (pAt f j).2 ∧ (pAt f j).2 ≤ 65520)) := (fun j hj => fkB_bd (fkS_at hfk (k := j) (by have := HN.out; omega)).1 : ∀ j, j < len → _)
  have HS : Hid (∀ j, 0 ≤ clmN key f (lfS true k y) j ∧ clmN key f (lfS true k y) j ≤ 65520) := fun j => clmN_bd (lfS_bd true k y) j
  have hbr := Below.refl w.heap.size w
  rw [HLF.out] at hT
  obtain ⟨s0, hs0⟩ : ∃ s0, s0 = lfS true k y := ⟨_, rfl⟩
  rw [← hs0] at hT HS ⊢
  clear H hv hfk HLF hs0
  go_enter Tryz.func133, Tryz.ntmps133
  go_wp2_with fail
  go_region_held3 (fun w' => w'.cell? ⟨p, 1, none⟩ = some (.int .i64 k) ∧ w'.cell? ⟨p, 2, none⟩ = some (.int .i64 y))
    (first | exact ⟨c1, c2⟩ | exact HC.out _ hbr | exact HC.out _ hbr.drew | exact HC.out _ (hbr.alloc hbr.size _) | exact HC.out _ (hbr.alloc hbr.size _).drew | exact HC.out _ (hbr.drew.alloc hbr.drew.size _))
    (first
      | (go_at_call 155; refine (hT _ _ (by first | exact two_ints_at rfl | exact (two_ints_at rfl).below (Below.refl _ _).drew)).mono ?_; rintro e wt ⟨rfl, hbt⟩; have hbr : Below w.heap.size w wt := (by first | exact below_after_of (hbr.alloc hbr.size _) hbt | exact below_after_of (hbr.alloc hbr.size _).drew hbt | exact below_after_of (hbr.drew.alloc hbr.drew.size _) hbt)))
  have HBT : Hid (Below w.heap.size w wt) := hbr
  clear hT hbr hbt HC c0 c1 c2 c3
  go_wp2
  go_loopw [7, 8] (fun s i wr => ∃ j : Nat, j ≤ m ∧ i = .int .i64 (j : Int) ∧ s = .int .i64 (clmN key f s0 j) ∧ Hid (Below w.heap.size w wr)) (fun _ i _ => m - (intOf i).toNat)
  case atStart => exact ⟨0, Nat.zero_le _, rfl, rfl, HBT⟩
  case round =>
    obtain ⟨j, hj, rfl, rfl, hB⟩ := hrel
    by_cases hjm : j < m
    · have hji : (j : Int) < (m : Int) := by omega
      have hjl : (j : Int) < (len : Int) := by omega
      obtain ⟨b, off, rfl, hb, hc⟩ := HV.out (by omega)
      have q0 := (hB.out.cell (p := ⟨b, off + j * 2, none⟩) hb).trans (hc j (by omega)).1
      have q1 := (hB.out.cell (p := ⟨b, off + j * 2 + 1, none⟩) hb).trans (hc j (by omega)).2
      obtain ⟨-, -, -, d3⟩ := (HH.out _ hB.out).cells
      have hN := l7Node_any key (pAt f j).1 (pAt f j).2 (clmN key f s0 j) b (off + j * 2) wr hk (HFK.out j (by omega)).1 (HFK.out j (by omega)).2 (HS.out j) (by have := hB.out.size; omega) q0 q1
      have hbts := tagL_bts (tag := 5) (xs := ndL key (pAt f j).1 (pAt f j).2 (clmN key f s0 j)) (by omega) (ndL_ok (HFK.out j (by omega)).1 (HFK.out j (by omega)).2 (HS.out j))
      have hSm := fun v w h => l2Sum_any v (tagL 5 (ndL key (pAt f j).1 (pAt f j).2 (clmN key f s0 j))) w h hbts (by rw [tagL_len, ndL_len]; omega)
      have HNX : Hid (clmN key f s0 (j + 1) = sumL (tagL 5 (ndL key (pAt f j).1 (pAt f j).2 (clmN key f s0 j)))) := rfl
      generalize sumL (tagL 5 (ndL key (pAt f j).1 (pAt f j).2 (clmN key f s0 j))) = q at *
      generalize tagL 5 (ndL key (pAt f j).1 (pAt f j).2 (clmN key f s0 j)) = ys at *
      generalize clmN key f s0 j = sj at *
      clear hc hbts q0 q1 HV
      go_wp2_with fail
      refine hN.mono ?_
      rintro e w3 ⟨a3, c3, rfl, hb3, o3⟩
      have I3 := own_ints o3
      have hB3 := below_after_of hB.out hb3
      clear hN hb3 o3
      go_wp2_with fail
      refine (hSm _ _ I3).mono ?_
      rintro e w4 ⟨rfl, rfl⟩
      clear hSm I3
      go_wp2
      go_roundw
      case rel => exact ⟨j + 1, by omega, by go_num, by rw [HNX.out], hB3⟩
      case measure => simp [intOf]; omega
    · have hjm : j = m := by omega
      subst hjm
      go_wp2
      go_ret
      exact ⟨rfl, hB.out⟩
end U
end Go.Proofs.YtdbbmclobmigdaaGreat

/- The iterator over the forks of a trail, for every body that writes no box of a fork and nothing that was there ahead. -/
namespace Go.Proofs.YtdbbmclobmigdaaGreat
open Go.RowKit Go.Shelf
namespace U
attribute [local go_sem] Oper.semAt_some
/-- What a round keeps: what lies below a place, and every box of a fork. -/
structure KpT (N : Nat) (A B : World) : Prop where
  b : Below N A B
  s : ∀ (k : Nat) (cs : Array Value), A.heap[k]? = some (Obj.cells cs 198) → B.heap[k]? = some (Obj.cells cs 198)
theorem KpT.refl (N : Nat) (A : World) : KpT N A A := ⟨Below.refl _ _, fun _ _ h => h⟩
theorem KpT.trans {N : Nat} {A B C : World} (h : KpT N A B) (k : KpT N B C) : KpT N A C := ⟨h.b.trans k.b, fun i o h1 => k.s i o (h.s i o h1)⟩
theorem KpT.of_below {N : Nat} {A B : World} (hN : N ≤ A.heap.size) (h : Below A.heap.size A B) : KpT N A B := ⟨h.mono hN, fun k _ hk => (h.block k (Array.getElem?_eq_some_iff.1 hk).1).trans hk⟩
theorem KpT.cell {N : Nat} {A B : World} (h : KpT N A B) {b o : Nat} {v : Value} (hlt : b < N) (hc : A.cell? ⟨b, o, none⟩ = some v) : B.cell? ⟨b, o, none⟩ = some v := (h.b.cell (p := ⟨b, o, none⟩) hlt).trans hc
set_option maxRecDepth 100000 in
set_option maxHeartbeats 2000000 in
theorem forksUp_inT {α : Type} (n : Nat) (hn : 1 ≤ n) (l X Bs b off len cap : Nat) (av : Option Addr) (f : Prl) (g : Nat → α) (encs : α → Array Value) (HL : Hid (len = f.length)) (hlen : len ≤ 1000) (hX : 0 < len → b < X) (hav : 0 < len → av = some ⟨b, off, none⟩)
    (HE : Hid (∀ j, j < len → encs (g j) = #[.int .i64 (ahd f j), .agg #[.int .i64 (pAt f j).1, .int .i64 (pAt f j).2]])) (J Jx : List α → World → Prop)
    (hJ : ∀ s A B, J s A → A.grownBy B none → J s B)
    (hY : ∀ pre x W, J pre W → pre.length < len → YieldAt Fence.wide (n - 1) Tryz.prog l (encs x) W fun e W' =>
      (e = .returned (.bool true) ∧ J (pre ++ [x]) W' ∧ KpT X W W') ∨ (e = .returned (.bool false) ∧ Jx (pre ++ [x]) W'))
    (W : World) (hXW : X ≤ W.heap.size) (hBs : W.heap[Bs]? = some (.cells #[.slice av len cap] 46 (0, 0)))
    (hc : ∀ j, j < len → W.cell? ⟨b, off + j * 2, none⟩ = some (.int .i64 (pAt f j).1) ∧ W.cell? ⟨b, off + j * 2 + 1, none⟩ = some (.int .i64 (pAt f j).2)) (h0 : J [] W) :
    CallsIn Fence.wide n Tryz.prog 185 #[.func (.yield l) #[] #[], .pointer (some ⟨Bs, 0, none⟩)] W fun e W' => (∃ v, e = .returned v) ∧
      ((∃ ys, ys = upTo g len ∧ J ys W') ∨ (∃ pre, (∃ k, k < len ∧ pre = upTo g (k + 1)) ∧ Jx pre W')) := by
  refine callsIn_of_wp Tryz.func185 rfl trivial ?_ rfl
  have hB0 := box1_cell hBs
  simp only [Tryz.ntmps185, List.size_toArray, List.length_cons, List.length_nil, Nat.reduceAdd, Nat.reduceSub, Array.replicate_succ, Array.replicate_zero, List.push_toArray, List.append_toArray, List.nil_append, List.cons_append]
  gi_wp2
  gi_loopw [3, 8] (fun a i wr => ∃ k : Nat, k ≤ len ∧ i = .int .i64 (k : Int) ∧ a = .int .i64 (ahd f k) ∧ Hid (J (upTo g k) wr) ∧ Hid (KpT X W wr))
    (fun _ i _ => len - (intOf i).toNat)
  case atStart => exact ⟨0, Nat.zero_le _, rfl, rfl, h0, KpT.refl _ _⟩
  case round =>
    obtain ⟨k, hk, rfl, rfl, hJs, hnx⟩ := hrel
    by_cases hkn : k < len
    · have hki : (k : Int) < (len : Int) := by omega
      have hae := hav (by omega)
      subst hae
      have hcx := hc k hkn
      have d0 := hnx.out.cell (hX (by omega)) hcx.1
      have d1 := hnx.out.cell (hX (by omega)) hcx.2
      have hs : Hid (upTo g (k + 1) = upTo g k ++ [g k]) := upTo_succ g k
      have hx := HE.out k hkn
      have hah : Hid (ahd f (k + 1) = (pAt f k).1) := ahd_succ f k
      obtain ⟨W2, hW2⟩ : ∃ W2, W2 = wr.alloc (.cells #[.int .i64 (pAt f k).1, .int .i64 (pAt f k).2] 198) := ⟨_, rfl⟩
      have hJ2 : J (upTo g k) W2 := by rw [hW2]; exact hJ _ _ _ hJs.out (World.grownBy_alloc wr _ none)
      obtain ⟨fn, tmps, assign, body, hy, hR⟩ := hY _ (g k) W2 hJ2 (by rw [upTo_len]; exact hkn)
      rw [hx] at hy
      have hbx : W2.heap[wr.heap.size]? = some (.cells #[.int .i64 (pAt f k).1, .int .i64 (pAt f k).2] 198) := by rw [hW2]; exact heap_alloc_new wr _
      have hz : Hid (X ≤ wr.heap.size) := Nat.le_trans hXW hnx.out.b.size
      have hk2 : Hid (KpT X W W2) := (hnx.out.trans (by rw [hW2]; exact KpT.of_below hz.out (one_new _)) : KpT X W W2)
      rw [hW2] at hy
      have HW2 : Hid (W2 = wr.alloc (.cells #[.int .i64 (pAt f k).1, .int .i64 (pAt f k).2] 198)) := hW2
      generalize (pAt f k).1 = fb at *
      generalize (pAt f k).2 = fo at *
      generalize ahd f k = fa at *
      clear hc hcx hJs HE hW2
      gi_wp2
      rw [← HW2.out]
      refine hR.mono ?_
      rintro e W3 (⟨rfl, hJ3, hk3⟩ | ⟨rfl, hJx3⟩)
      · obtain ⟨e0, -⟩ := two_cellsV (hk3.s _ _ hbx)
        gi_wp2
        go_roundw
        case rel => exact ⟨k + 1, by omega, by go_num, by rw [hah.out], by rw [hs.out]; exact hJ3, hk2.out.trans hk3⟩
        case measure => simp [intOf]; omega
      · gi_wp2
        refine bodyPost_ret (results_none rfl _ _ _) rfl ?_
        exact ⟨⟨_, rfl⟩, .inr ⟨_, ⟨k, hkn, hs.out.symm⟩, hJx3⟩⟩
    · have hkn : k = len := by omega
      subst hkn
      clear hc
      gi_wp2
      go_end0
      exact ⟨⟨_, rfl⟩, .inl ⟨_, rfl, hJs.out⟩⟩
theorem forksUp_stopsT {α : Type} {w : World} (n : Nat) (hn : 1 ≤ n) (X Bs b off len cap : Nat) (av : Option Addr) (f : Prl) (g : Nat → α) (encs : α → Array Value) (HL : Hid (len = f.length)) (hlen : len ≤ 1000) (hX : 0 < len → b < X) (hav : 0 < len → av = some ⟨b, off, none⟩ ∧ b < w.heap.size)
    (HE : Hid (∀ j, j < len → encs (g j) = #[.int .i64 (ahd f j), .agg #[.int .i64 (pAt f j).1, .int .i64 (pAt f j).2]])) (hXW : X ≤ w.heap.size) (hBs : w.heap[Bs]? = some (.cells #[.slice av len cap] 46 (0, 0)))
    (hc : ∀ j, j < len → w.cell? ⟨b, off + j * 2, none⟩ = some (.int .i64 (pAt f j).1) ∧ w.cell? ⟨b, off + j * 2 + 1, none⟩ = some (.int .i64 (pAt f j).2)) :
    SeqStopsK Fence.wide n Tryz.prog 185 #[.pointer (some ⟨Bs, 0, none⟩)] encs (KpT X) (fun ys => ys = upTo g len) (fun pre => ∃ k, k < len ∧ pre = upTo g (k + 1)) len w :=
  fun l J Jx W hW hJ _ hY h0 => forksUp_inT n hn l X Bs b off len cap av f g encs HL hlen hX (fun h => (hav h).1) HE J Jx (fun s A B h hg => hJ s A B none h hg (fun r e => by cases e)) hY W (Nat.le_trans hXW hW.size) ((hW.block Bs (Array.getElem?_eq_some_iff.1 hBs).1).trans hBs)
    (fun j hj => ⟨(hW.cell (p := ⟨b, off + j * 2, none⟩) (hav (by omega)).2).trans (hc j hj).1, (hW.cell (p := ⟨b, off + j * 2 + 1, none⟩) (hav (by omega)).2).trans (hc j hj).2⟩) h0
end U
end Go.Proofs.YtdbbmclobmigdaaGreat

/- The fault and the size of a trail, as the program and as the model tell them. -/
namespace Go.Proofs.YtdbbmclobmigdaaGreat
open Go.RowKit
namespace U
set_option maxRecDepth 100000 in
set_option maxHeartbeats 2000000 in
theorem implTrailFault_any (x : Bool) (k y : Int) (sv : Value) (f : Prl) (w : World) (hv : Prs w sv f) :
    Calls Tryz.prog 167 #[.agg #[.bool x, .int .i64 k, .int .i64 y, sv]] w fun e w' => e = .returned (.int .i64 (tlF x k y f)) ∧ Below w.heap.size w w' := by
  have hW := tlF_ways x k y f
  generalize tlF x k y f = q at *
  have hS := fun w => isSlot_any (k, y) w
  dsimp only at hS
  have HV : Hid (Prs w sv f) := hv
  obtain ⟨a, c, rfl⟩ := hv.shape
  obtain ⟨W, hWW⟩ : ∃ W, W = w.alloc (.cells #[.bool x, .int .i64 k, .int .i64 y, .slice a f.length c] 48) := ⟨_, rfl⟩
  have HW : Hid (w.alloc (.cells #[.bool x, .int .i64 k, .int .i64 y, .slice a f.length c] 48) = W) := hWW.symm
  have H : TlBlk W w.heap.size x k y (.slice a f.length c) := by rw [hWW]; exact tl_box w x k y _
  have hB : Below w.heap.size w W := by rw [hWW]; exact one_new _
  have HH : Hid (TlBlk W w.heap.size x k y (.slice a f.length c)) := H
  obtain ⟨c0, c1, c2, c3⟩ := H.cells
  have hp := H.lt
  clear H hv hWW
  rcases hW with (⟨rfl, rfl, hh⟩ | ⟨rfl, hf, rfl | ⟨rfl, rfl, _⟩⟩ | ⟨rfl, hf, hn, rfl⟩) | ⟨rfl, hf, hn, hx⟩
  · generalize f.length = n at *
    clear hS HV
    by_cases hk : k = 0
    · subst hk
      by_cases hy : y = 0
      · subst hy
        have hn : 0 < n := by rcases hh with h | h; exact absurd rfl h; exact h
        have hni : (0 : Int) < (n : Int) := by omega
        clear hh hn
        go_enter Tryz.func167, Tryz.ntmps167
        go_wp2
        go_ret
        exact ⟨rfl, one_new _⟩
      · have hy1 : (y == 0) = false := by simpa using hy
        have hy2 : (y != 0) = true := by simpa using hy
        clear hh
        go_enter Tryz.func167, Tryz.ntmps167
        go_wp2
        go_ret
        exact ⟨rfl, one_new _⟩
    · have hk1 : (k == 0) = false := by simpa using hk
      have hk2 : (k != 0) = true := by simpa using hk
      clear hh
      go_enter Tryz.func167, Tryz.ntmps167
      go_wp2
      go_ret
      exact ⟨rfl, one_new _⟩
  · rw [hf] at hS
    generalize f.length = n at *
    clear HV
    go_enter Tryz.func167, Tryz.ntmps167
    go_wp2_with fail
    refine (hS _).mono ?_
    rintro e w1 ⟨rfl, hb1⟩
    have hB1 := below_after hb1
    clear hS hb1
    go_wp2
    go_ret
    exact ⟨rfl, hB1⟩
  · exact absurd hf (by decide)
  · rw [hf] at hS
    have hn8 : (8 : Int) < (f.length : Int) := by omega
    generalize f.length = n at *
    clear HV
    go_enter Tryz.func167, Tryz.ntmps167
    go_wp2_with fail
    rw [HW.out]
    refine (hS _).mono ?_
    rintro e w1 ⟨rfl, hb1⟩
    have hB1 := below_after_of hB hb1
    have d3 := (hb1.cell (p := ⟨w.heap.size, 3, none⟩) hp).trans c3
    clear hS hb1
    go_wp2
    go_ret
    exact ⟨rfl, hB1⟩
  · rw [hf] at hS
    have hFF := fun w' h => forksFault_any (.slice a f.length c) f w' (HV.out.below (w' := w') h) (by omega)
    have hn8 : ¬ (8 : Int) < (f.length : Int) := by omega
    have hpc : x = true ∨ (x = false ∧ k = 0 ∧ y = 0 ∧ f.length = 0) := hx
    generalize fkF f = q at *
    generalize f.length = n at *
    clear HV hx
    rcases hpc with rfl | ⟨rfl, rfl, rfl, rfl⟩
    · go_enter Tryz.func167, Tryz.ntmps167
      go_wp2_with fail
      rw [HW.out]
      refine (hS _).mono ?_
      rintro e w1 ⟨rfl, hb1⟩
      have hB1 := below_after_of hB hb1
      have d3 := (hb1.cell (p := ⟨w.heap.size, 3, none⟩) hp).trans c3
      clear hS hb1
      go_wp2_with fail
      refine (hFF _ hB1).mono ?_
      rintro e w2 ⟨rfl, hb2⟩
      have hB2 := below_after_of hB1 hb2
      clear hFF hb2
      go_wp2
      go_ret
      exact ⟨rfl, hB2⟩
    · go_enter Tryz.func167, Tryz.ntmps167
      go_wp2_with fail
      rw [HW.out]
      refine (hS _).mono ?_
      rintro e w1 ⟨rfl, hb1⟩
      have hB1 := below_after_of hB hb1
      have d3 := (hb1.cell (p := ⟨w.heap.size, 3, none⟩) hp).trans c3
      clear hS hb1
      go_wp2_with fail
      refine (hFF _ hB1).mono ?_
      rintro e w2 ⟨rfl, hb2⟩
      have hB2 := below_after_of hB1 hb2
      clear hFF hb2
      go_wp2
      go_ret
      exact ⟨rfl, hB2⟩
/-- The size of a trail. -/
def tzV (x : Bool) (k y : Int) (f : Prl) : Int := if tlF x k y f = 0 then (if x then 5 + 3 * (f.length : Int) else 1) else 0
theorem tzV_no {x : Bool} {k y : Int} {f : Prl} (h : tlF x k y f ≠ 0) : tzV x k y f = 0 := if_neg h
theorem tzV_true {k y : Int} {f : Prl} (h : tlF true k y f = 0) : tzV true k y f = 5 + 3 * (f.length : Int) := if_pos h
theorem tzV_false {k y : Int} {f : Prl} (h : tlF false k y f = 0) : tzV false k y f = 1 := if_pos h
end U
end Go.Proofs.YtdbbmclobmigdaaGreat

/- A region that draws its order, inside a round of a range over a function: what holds of it elsewhere holds there. -/
namespace Go.Proofs.YtdbbmclobmigdaaGreat
open Go.RowKit Go.Shelf
namespace U
theorem oper_round {n l : Nat} {P : Program} {o : Oper} {a : Act} {w : World} {K : Act → World → Prop} {Q : Exit → Act → World → Prop} (hd : ∀ c, o.op ≠ .defer c)
    (h : o.wp P a w K Q) : o.wpIn (Fence.wide.inRound l) n P a w K Q := by
  unfold Oper.wp at h
  unfold Oper.wpIn
  refine ⟨fun _ _ => trivial, ?_⟩
  rw [show (Fence.wide.inRound l).round = some l from rfl, Oper.semAt_some l _ _ hd]
  generalize (execOp a.eval o).run P w = r at *
  cases r with
  | ok x w' =>
    cases x <;> simp only [Oper.upon, Oper.uponIn] at h ⊢ <;>
      first
        | exact h
        | exact h.elim
        | exact ⟨fun hh => by simp [Fence.inRound, Fence.wide] at hh, CallsIn.inRound l (callsIn_wide.2 h)⟩
        | exact ⟨fun hh => by simp [Fence.inRound, Fence.wide] at hh, fun c cs _ => let ⟨v, w'', r, st⟩ := h c cs; ⟨v, w'', r, stepsIn_wide.2 st⟩⟩
  | halt x w' =>
    cases x <;> simp only [Oper.upon, Oper.uponIn] at h ⊢ <;>
      first
        | exact h
        | exact h.elim
        | skip
theorem any_round {n l : Nat} {P : Program} {md : Region.Mode} {ops : Array Oper} {Q : Exit → Act → World → Prop} (hd : ∀ (i : Nat) (o : Oper), ops[i]? = some o → ∀ c, o.op ≠ .defer c) (hQ : ¬ LetsOut Q) :
    ∀ (fuel : Nat) (listed : Array Bool) (a : Act) (w : World), wpAny P md ops Q fuel listed a w → wpAnyIn (Fence.wide.inRound l) n P md ops Q fuel listed a w
  | 0, _, _, _, h => h
  | fuel + 1, listed, a, w, h => by
    refine ⟨h.1, fun i hi => ?_⟩
    have h2 := h.2 i hi
    unfold wpOp at h2
    unfold wpOpIn
    split
    · rename_i ho
      simp only [ho] at h2
      exact any_round hd hQ fuel _ a w h2
    · rename_i o ho
      simp only [ho] at h2
      split
      · rename_i hw
        simp only [hw, if_true] at h2
        rcases h2 with h2 | h2
        · exact Oper.wpIn_mono (fun a w h => any_round hd hQ fuel _ a w h) (oper_round (hd i o ho) h2)
        · exact absurd h2.2 hQ
      · rename_i hw
        simp only [hw] at h2
        exact ⟨fun _ _ => trivial, any_round hd hQ fuel _ _ w h2⟩
/-- The region in a round, out of what is held behind each operation. -/
theorem region_round {n l id : Nat} {P : Program} {ops : Array Oper} {Q : Exit → Act → World → Prop} {a : Act} {w : World} {S : World → Prop} (hm : P.follows .mixedOrders = true) (hd : ∀ (i : Nat) (o : Oper), ops[i]? = some o → ∀ c, o.op ≠ .defer c) (hQ : ¬ LetsOut Q)
    (h : wpAnyH P .any ops Q S ops.size (Array.replicate ops.size false) a w.drew) : (Code.region id ops true).wpIn (Fence.wide.inRound l) n P Q a w :=
  wpIn_region_any hm (any_round hd hQ _ _ _ _ (wpAny_of_held _ _ _ _ h))
end U
end Go.Proofs.YtdbbmclobmigdaaGreat

/- What is summed along a trail, from the leaf up, as the program tells it. -/
namespace Go.Proofs.YtdbbmclobmigdaaGreat
open Go.RowKit Go.Shelf
namespace U
attribute [local go_sem] Oper.semAt_some
theorem Tryz.infoBs : (Tryz.prog.info? 134).map (fun i => (i.zero, i.size, i.bytes)) = some (some (.slice none 0 0), 1, 24) := by kernel_rfl
/-- A fork in range. -/
abbrev Fp := { p : Int × Int // fkB p = true }
def gP (f : Prl) (j : Nat) : Int × Fp := (ahd f j, if h : fkB (pAt f j) = true then ⟨pAt f j, h⟩ else ⟨(0, 0), rfl⟩)
theorem gP_at {f : Prl} {m j : Nat} (h : fkS f m = 0) (hj : j < m) : (gP f j).1 = ahd f j ∧ (gP f j).2.1 = pAt f j := by
  have h1 := (fkS_at h hj).1
  refine ⟨rfl, ?_⟩
  unfold gP
  rw [dif_pos h1]
/-- The pieces so far, and the last one. -/
def pzs (key : Int) (lf : List Int) (pre : List (Int × Fp)) : List (List Int) × List Int :=
  pre.foldl (fun st x => (st.1 ++ [tagL 5 (ndL key x.2.1.1 x.2.1.2 (sumL st.2))], tagL 5 (ndL key x.2.1.1 x.2.1.2 (sumL st.2)))) ([lf], lf)
theorem pzs_snoc (key : Int) (lf : List Int) (pre : List (Int × Fp)) (x : Int × Fp) : pzs key lf (pre ++ [x]) = ((pzs key lf pre).1 ++ [tagL 5 (ndL key x.2.1.1 x.2.1.2 (sumL (pzs key lf pre).2))], tagL 5 (ndL key x.2.1.1 x.2.1.2 (sumL (pzs key lf pre).2))) := by unfold pzs; rw [List.foldl_append]; rfl
/-- The piece at a place of a trail. -/
def pcL (key : Int) (f : Prl) (lf : List Int) : Nat → List Int
  | 0 => lf
  | j + 1 => tagL 5 (ndL key (pAt f j).1 (pAt f j).2 (clmN key f (sumL lf) j))
theorem pcL_sum (key : Int) (f : Prl) (lf : List Int) : ∀ j, sumL (pcL key f lf j) = clmN key f (sumL lf) j
  | 0 => rfl
  | _ + 1 => rfl
theorem pzs_up {key : Int} {lf : List Int} {f : Prl} {m : Nat} (h : fkS f m = 0) : ∀ j, j ≤ m → pzs key lf (upTo (gP f) j) = ((List.range (j + 1)).map (pcL key f lf), pcL key f lf j)
  | 0, _ => rfl
  | j + 1, hj => by
    rw [upTo_succ, pzs_snoc, pzs_up h j (by omega), (gP_at h hj).2, pcL_sum]
    refine Prod.ext ?_ rfl
    rw [List.range_succ (n := j + 1), List.map_append]
    rfl
theorem pzs_len (key : Int) (lf : List Int) (pre : List (Int × Fp)) : (pzs key lf pre).1.length = pre.length + 1 := by
  have h : ∀ (pre : List (Int × Fp)) (st : List (List Int) × List Int), (pre.foldl (fun st x => (st.1 ++ [tagL 5 (ndL key x.2.1.1 x.2.1.2 (sumL st.2))], tagL 5 (ndL key x.2.1.1 x.2.1.2 (sumL st.2)))) st).1.length = st.1.length + pre.length := by
    intro pre
    induction pre with
    | nil => intro st; rfl
    | cons x pre ih =>
      intro st
      rw [List.foldl_cons, ih]
      simp only [List.length_append, List.length_cons, List.length_nil]
      omega
  unfold pzs
  rw [h]
  simp only [List.length_cons, List.length_nil]
  omega
theorem pzs_ok {key : Int} {lf : List Int} (hb : Bts lf) (hn : lf.length ≤ 16) (pre : List (Int × Fp)) : Bts (pzs key lf pre).2 ∧ (pzs key lf pre).2.length ≤ 16 := by
  rcases List.eq_nil_or_concat pre with rfl | ⟨q, x, rfl⟩
  · exact ⟨hb, hn⟩
  · rw [List.concat_eq_append, pzs_snoc]
    have hx := fkB_bd x.2.2
    exact ⟨tagL_bts (by omega) (ndL_ok hx.1 hx.2 (sumL_bd _)), by rw [tagL_len, ndL_len]; omega⟩
/-- Pieces as they lie in memory. -/
structure PcRows (W : World) (B : Nat) (us : List Value) (ps : List (List Int)) : Prop where
  n : us.length = ps.length
  r : ∀ (j : Nat) (u : Value) (ys : List Int), us[j]? = some u → ps[j]? = some ys → W.ownsRow B 5 1 u ys.length (ys.map (Value.int .u8))
theorem PcRows.below {W W' : World} {B : Nat} {us : List Value} {ps : List (List Int)} (h : PcRows W B us ps) (hb : Below W.heap.size W W') : PcRows W' B us ps := ⟨h.n, fun j u ys h1 h2 => own_below (h.r j u ys h1 h2) hb⟩
theorem PcRows.mono {W : World} {B B' : Nat} {us : List Value} {ps : List (List Int)} (h : PcRows W B' us ps) (hB : B ≤ B') : PcRows W B us ps := ⟨h.n, fun j u ys h1 h2 => own_mono (h.r j u ys h1 h2) hB⟩
theorem own_type {w : World} {B n size : Nat} {e : TypeId} {v : Value} {xs : List Value} {g : Nat} (h : w.ownsRow B e size v n xs) (hg : v.ownBlock = some g) : ∃ cur, w.heap[g]? = some (.cells cur e) := by
  rcases h.2 with ⟨rfl, _⟩ | ⟨g', cap, cur, rfl, _, h4, _⟩
  · simp [Value.ownBlock] at hg
  · have : g' = g := by simpa [Value.ownBlock] using hg
    subst this
    exact ⟨cur, h4⟩
/-- A row stands where a block of another type, or none that has cells, has turned. -/
theorem own_aside {w w' : World} {B n size : Nat} {e : TypeId} {v : Value} {xs : List Value} {row : Option Nat} (h : w.ownsRow B e size v n xs) (hg : w.grownBy w' row) (hr : ∀ (b : Nat) (cur : Array Value), row = some b → w.heap[b]? ≠ some (.cells cur e)) : w'.ownsRow B e size v n xs := by
  refine own_grown h hg ?_
  rcases hk : v.ownBlock with _ | g
  · exact Or.inl rfl
  · right
    intro e'
    obtain ⟨cur, hc⟩ := own_type h hk
    exact hr g cur e'.symm hc
theorem PcRows.aside {W W' : World} {B : Nat} {us : List Value} {ps : List (List Int)} {row : Option Nat} (h : PcRows W B us ps) (hg : W.grownBy W' row) (hr : ∀ (b : Nat) (cur : Array Value), row = some b → W.heap[b]? ≠ some (.cells cur 5)) : PcRows W' B us ps := ⟨h.n, fun j u ys h1 h2 => own_aside (h.r j u ys h1 h2) hg hr⟩
theorem not_type {W : World} {b : Nat} {cs cur : Array Value} {t e : TypeId} (h : W.heap[b]? = some (.cells cs t)) (ht : t ≠ e) : W.heap[b]? ≠ some (.cells cur e) := by
  rw [h]
  simp
  exact fun _ => ht
theorem not_cells {W : World} {row : Option Nat} {B : Nat} (hr : ∀ r, row = some r → B ≤ r ∧ ∃ o : Obj, W.heap[r]? = some o ∧ o.isCells = false) {e : TypeId} : ∀ (b : Nat) (cur : Array Value), row = some b → W.heap[b]? ≠ some (.cells cur e) := by
  intro b cur hb h
  obtain ⟨-, o, ho, hn⟩ := hr b hb
  rw [h] at ho
  cases ho
  simp [Obj.isCells] at hn
theorem own_oneP (w : World) (B : Nat) (e : TypeId) (u : Value) (hb : B ≤ w.heap.size) : (w.alloc (.cells #[u] e)).ownsRow B e 1 (.slice (some ⟨w.heap.size, 0, none⟩) 1 1) 1 [u] :=
  ⟨by simp, .inr ⟨w.heap.size, 1, #[u], rfl, hb, heap_alloc_new w _, Nat.le_refl _, by unfold maxLen; omega, rfl, by simp⟩⟩
theorem PcRows.snoc {W : World} {B : Nat} {us : List Value} {ps : List (List Int)} {u : Value} {ys : List Int} (h : PcRows W B us ps) (hu : W.ownsRow B 5 1 u ys.length (ys.map (Value.int .u8))) : PcRows W B (us ++ [u]) (ps ++ [ys]) := by
  refine ⟨by simp [h.n], fun j v zs h1 h2 => ?_⟩
  by_cases hj : j < us.length
  · rw [List.getElem?_append_left hj] at h1
    rw [List.getElem?_append_left (by rw [← h.n]; exact hj)] at h2
    exact h.r j v zs h1 h2
  · have hl := (List.getElem?_eq_some_iff.1 h1).1
    have ej : j = us.length := by simp at hl; omega
    subst ej
    rw [List.getElem?_append_right (Nat.le_refl _)] at h1
    rw [h.n, List.getElem?_append_right (Nat.le_refl _)] at h2
    simp at h1 h2
    subst h1 h2
    exact hu
theorem PcRows.one {W : World} {B : Nat} {u : Value} {ys : List Int} (hu : W.ownsRow B 5 1 u ys.length (ys.map (Value.int .u8))) : PcRows W B [u] [ys] := by
  have h := PcRows.snoc (W := W) (B := B) (us := []) (ps := []) ⟨rfl, fun j u ys h => by simp at h⟩ hu
  exact h
/-- What is answered: pieces that are new. -/
structure PcsAns (w : World) (ps : List (List Int)) (e : Ending) (w' : World) : Prop where
  b : Below w.heap.size w w'
  r : ∃ g c us, e = .returned (.slice (some ⟨g, 0, none⟩) ps.length c) ∧ w'.ownsRow w.heap.size 134 1 (.slice (some ⟨g, 0, none⟩) ps.length c) ps.length us ∧ PcRows w' w.heap.size us ps
/-- What holds between two rounds: the last piece, the pieces so far. -/
structure PI (B M N : Nat) (w : World) (key : Int) (lf : List Int) (pre : List (Int × Fp)) (W : World) : Prop where
  x : ∃ a c g cp us, W.heap[B]? = some (.cells #[.slice a (pzs key lf pre).2.length c] 134) ∧ W.heap[B + 1 + 1]? = some (.cells #[.slice (some ⟨g, 0, none⟩) (pre.length + 1) cp] 253) ∧ W.ownsRow (B + 1) 134 1 (.slice (some ⟨g, 0, none⟩) (pre.length + 1) cp) (pre.length + 1) us ∧ W.ownsRow M 5 1 (.slice a (pzs key lf pre).2.length c) (pzs key lf pre).2.length ((pzs key lf pre).2.map (Value.int .u8)) ∧ PcRows W M us (pzs key lf pre).1
  b : Below B w W
  z : N ≤ W.heap.size
theorem PI.own {B M N : Nat} {w : World} {key : Int} {lf : List Int} (hN : B + 1 + 1 < N) (hw : w.heap.size = B) : OwnFrom N (PI B M N w key lf) := by
  rintro pre X Y row ⟨⟨a, c, g, cp, us, h1, h2, h3, h4, h5⟩, hb, hz⟩ hg hr
  have hne : ∀ (b : Nat) (cs : Array Value) (t : TypeId), X.heap[b]? = some (.cells cs t) → some b ≠ row := fun b cs t h e => not_cells hr b cs e.symm h
  exact ⟨⟨a, c, g, cp, us, grown_blk hg h1 (hne _ _ _ h1), grown_blk hg h2 (hne _ _ _ h2), own_aside h3 hg (not_cells hr), own_aside h4 hg (not_cells hr), h5.aside hg (not_cells hr)⟩, hb.grown hg (by rw [← hw]; exact hb.size) (fun k hk => by have := (hr k hk).1; omega), Nat.le_trans hz hg.size⟩
end U
end Go.Proofs.YtdbbmclobmigdaaGreat

/- The pieces of a trail that has a leaf, as the program tells them. -/
namespace Go.Proofs.YtdbbmclobmigdaaGreat
open Go.RowKit Go.Shelf
namespace U
attribute [local go_sem] Oper.semAt_some
set_option maxRecDepth 100000 in
set_option maxHeartbeats 4000000 in
theorem trailPieces_some (key k y : Int) (sv : Value) (f : Prl) (w : World) (hv : Prs w sv f) (hk : inB key 0 255 = true) (h0 : tlF true k y f = 0) :
    Calls Tryz.prog 168 #[.int .i64 key, .agg #[.bool true, .int .i64 k, .int .i64 y, sv]] w fun e w' => PcsAns w ((List.range (f.length + 1)).map (pcL key f (tagL 4 [k, y]))) e w' := by
  have hok := tlF_ok h0
  have hU := fun w' h => forksUp_any sv f w' (hv.below (w' := w') h)
  have hlf : (Tr.leaf k y).Ok := fine_bd hok.leaf
  have hPc := (piece_leaf hlf).c
  simp only [pcF_leaf, pcV_leaf] at hPc
  have hlb : Bts (Tr.leaf k y).bts := hlf.bts
  have hll : (Tr.leaf k y).bts.length ≤ 16 := by rw [Tr.bts_leaf, tagL_len]; simp
  rw [show tagL 4 [k, y] = (Tr.leaf k y).bts from (Tr.bts_leaf k y).symm]
  obtain ⟨ad, c, rfl⟩ := hv.shape
  obtain ⟨len, hlp⟩ : ∃ len, len = f.length := ⟨_, rfl⟩
  have HLP : Hid (len = f.length) := hlp
  have HFK : Hid (fkS f len = 0) := (by rw [hlp]; exact hok.fk : fkS f len = 0)
  have hn : len ≤ 8 := by rw [hlp]; exact hok.len
  rw [← hlp] at hU hv ⊢
  generalize (Tr.leaf k y).bts = lf at *
  obtain ⟨W, hW⟩ : ∃ W, W = (w.alloc (.cells #[.int .i64 key] 2)).alloc (.cells #[.bool true, .int .i64 k, .int .i64 y, .slice ad len c] 48) := ⟨_, rfl⟩
  have HW : Hid ((w.alloc (.cells #[.int .i64 key] 2)).alloc (.cells #[.bool true, .int .i64 k, .int .i64 y, .slice ad len c] 48) = W) := hW.symm
  have hB : Below w.heap.size w W := by rw [hW]; exact two_new _ _
  have HLL : Hid (W.heap[w.heap.size]? = some (.cells #[.int .i64 key] 2) ∧ W.heap[w.heap.size + 1]? = some (.cells #[.bool true, .int .i64 k, .int .i64 y, .slice ad len c] 48)) := (by
    rw [hW]
    have h1 := heap_alloc_new (w.alloc (.cells #[.int .i64 key] 2)) (.cells #[.bool true, .int .i64 k, .int .i64 y, .slice ad len c] 48)
    simp only [World.size_alloc] at h1
    exact ⟨((one_new _).block w.heap.size (by simp)).trans (heap_alloc_new w _), h1⟩ : _ ∧ _)
  have hz0 : Hid (W.heap.size = w.heap.size + 1 + 1) := (by rw [hW]; simp : W.heap.size = w.heap.size + 1 + 1)
  clear hW hlp hok hlf h0
  have k0 := box1_cell HLL.out.1
  obtain ⟨t0, t1, t2, t3⟩ := TlBlk.cells HLL.out.2
  refine (callsIn_wide (n := 4)).1 (callsIn_of_wp_marks Tryz.func168 rfl trivial ?_ rfl)
  refine wpIn_wide.2 ?_
  simp only [Tryz.ntmps168, List.size_toArray, List.length_cons, List.length_nil, Nat.reduceAdd, Nat.reduceSub, Array.replicate_succ, Array.replicate_zero, List.push_toArray, List.append_toArray, List.nil_append, List.cons_append]
  go_wp2_with fail
  rw [HW.out]
  refine (hPc _).mono ?_
  rintro e w3 ⟨u3, rfl, own3, hb3⟩
  have HO3 : Hid (w3.ownsRow W.heap.size 5 1 u3 lf.length (lf.map (Value.int .u8))) := own3
  obtain ⟨a3, c3, rfl⟩ := own_shape own3
  have hw1 := hz0.out
  have m3 := (hb3.cell (p := ⟨w.heap.size + 1, 3, none⟩) (by show w.heap.size + 1 < W.heap.size; omega)).trans t3
  have hz3 : w.heap.size + 1 < w3.heap.size := by have := hb3.size; omega
  have m3A : (((w3.alloc (.cells #[.slice a3 lf.length c3] 134)).alloc (.cells #[.slice a3 lf.length c3] 134)).alloc (.cells #[.slice (some ⟨w3.heap.size + 1, 0, none⟩) 1 1] 253)).cell? ⟨w.heap.size + 1, 3, none⟩ = some (.slice ad len c) := ((((one_new _).alloc (one_new _).size _).alloc ((one_new _).alloc (one_new _).size _).size _).cell (p := ⟨w.heap.size + 1, 3, none⟩) hz3).trans m3
  clear hPc own3 hw1
  go_wp2_with fail
  refine (hU _ (((below_after_of hB hb3).alloc (below_after_of hB hb3).size _).alloc ((below_after_of hB hb3).alloc (below_after_of hB hb3).size _).size _ |>.alloc (((below_after_of hB hb3).alloc (below_after_of hB hb3).size _).alloc ((below_after_of hB hb3).alloc (below_after_of hB hb3).size _).size _).size _)).mono ?_
  rintro e w4 ⟨rfl, hw4⟩
  have HW4 : Hid (w4 = (((w3.alloc (.cells #[.slice a3 lf.length c3] 134)).alloc (.cells #[.slice a3 lf.length c3] 134)).alloc (.cells #[.slice (some ⟨w3.heap.size + 1, 0, none⟩) 1 1] 253)).alloc (.cells #[.slice ad len c] 46)) := hw4
  simp only [World.size_alloc]
  clear hw4 hU m3A
  go_wp2
  have HZ4 : Hid (w4.heap.size = w3.heap.size + 1 + 1 + 1 + 1) := (by rw [HW4.out]; simp : w4.heap.size = w3.heap.size + 1 + 1 + 1 + 1)
  have hz4 : w3.heap.size < w4.heap.size := by have := HZ4.out; omega
  have hBw3 : Below w.heap.size w w3 := below_after_of hB hb3
  have hws : w.heap.size ≤ w3.heap.size := hBw3.size
  have hB4 : Below w3.heap.size w3 w4 := by rw [HW4.out]; exact (((one_new _).alloc (one_new _).size _).alloc ((one_new _).alloc (one_new _).size _).size _).alloc (((one_new _).alloc (one_new _).size _).alloc ((one_new _).alloc (one_new _).size _).size _).size _
  have hS4 : w4.heap[w3.heap.size + 1 + 1 + 1]? = some (.cells #[.slice ad len c] 46) := by
    have h1 := heap_alloc_new (((w3.alloc (.cells #[.slice a3 lf.length c3] 134)).alloc (.cells #[.slice a3 lf.length c3] 134)).alloc (.cells #[.slice (some ⟨w3.heap.size + 1, 0, none⟩) 1 1] 253)) (.cells #[.slice ad len c] 46)
    simp only [World.size_alloc] at h1
    rw [HW4.out]
    exact h1
  have hPI : PI w3.heap.size w.heap.size w4.heap.size w3 key lf [] w4 := by
    have q1 : w4.heap[w3.heap.size]? = some (.cells #[.slice a3 lf.length c3] 134) := by
      rw [HW4.out]
      exact ((((one_new _).alloc (one_new _).size _).alloc ((one_new _).alloc (one_new _).size _).size _).block w3.heap.size (by simp)).trans (heap_alloc_new w3 _)
    have q2 : w4.heap[w3.heap.size + 1 + 1]? = some (.cells #[.slice (some ⟨w3.heap.size + 1, 0, none⟩) 1 1] 253) := by
      have h1 := heap_alloc_new ((w3.alloc (.cells #[.slice a3 lf.length c3] 134)).alloc (.cells #[.slice a3 lf.length c3] 134)) (.cells #[.slice (some ⟨w3.heap.size + 1, 0, none⟩) 1 1] 253)
      simp only [World.size_alloc] at h1
      rw [HW4.out]
      exact ((one_new _).block (w3.heap.size + 1 + 1) (by simp)).trans h1
    have q3 : w4.ownsRow (w3.heap.size + 1) 134 1 (.slice (some ⟨w3.heap.size + 1, 0, none⟩) 1 1) 1 [.slice a3 lf.length c3] := by
      have h1 := own_oneP (w3.alloc (.cells #[.slice a3 lf.length c3] 134)) (w3.heap.size + 1) 134 (.slice a3 lf.length c3) (by simp)
      rw [World.size_alloc] at h1
      rw [HW4.out]
      exact own_below h1 (two_new _ _)
    have q4 : w4.ownsRow w.heap.size 5 1 (.slice a3 lf.length c3) lf.length (lf.map (Value.int .u8)) := own_mono (own_below HO3.out hB4) hB.size
    exact ⟨⟨a3, c3, w3.heap.size + 1, 1, [.slice a3 lf.length c3], q1, q2, q3, q4, PcRows.one q4⟩, hB4, Nat.le_refl _⟩
  have HV : Hid (∃ b off, (0 < len → ad = some ⟨b, off, none⟩ ∧ b < w.heap.size) ∧ ∀ j, j < len → w.cell? ⟨b, off + j * 2, none⟩ = some (.int .i64 (pAt f j).1) ∧ w.cell? ⟨b, off + j * 2 + 1, none⟩ = some (.int .i64 (pAt f j).2)) := (by
    have hl := HLP.out
    by_cases h0 : 0 < len
    · obtain ⟨-, b, off, e, hb, hc⟩ := hv.at (by omega)
      exact ⟨b, off, fun _ => ⟨e, hb⟩, fun j hj => hc j (by omega)⟩
    · exact ⟨0, 0, fun h => absurd h h0, fun j hj => by omega⟩ : ∃ b off, _)
  obtain ⟨b, off, hav, hcc⟩ := HV.out
  have HK3 : Hid (w3.heap[w.heap.size]? = some (.cells #[.int .i64 key] 2)) := (by have := hz0.out; exact (hb3.block _ (by omega)).trans HLL.out.1 : w3.heap[w.heap.size]? = some (.cells #[.int .i64 key] 2))
  clear HV hv k0 t0 t1 t2 t3 m3 hB hb3 HW
  refine (wpIn_wide (n := 4)).1 ?_
  refine wpIn_rangeFunc_ownH (α := Int × Fp) rfl (by decide) (gf := 185) (lb := #[.pointer (some ⟨w3.heap.size + 1 + 1 + 1, 0, none⟩)]) rfl trivial (enters_of Tryz.func185 (by kernel_rfl) rfl)
    (forksUp_stopsT (w := w4) 3 (by decide) w.heap.size (w3.heap.size + 1 + 1 + 1) b off len c ad f (gP f) (fun x => #[.int .i64 x.1, .agg #[.int .i64 x.2.1.1, .int .i64 x.2.1.2]]) HLP (by omega) (fun h => (hav h).2) ?hav ?hE (by omega) hS4 ?hc)
    KpT.trans ?hKb (Below.refl _ _) (fun _ => rfl)
    (PI w3.heap.size w.heap.size w4.heap.size w3 key lf)
    (fun _ _ _ => False) (PI.own (by have := HZ4.out; omega) rfl) (fun _ _ _ _ _ hs _ _ => hs) hPI
    (fun x a' W => ∃ Bx, w4.heap.size ≤ Bx ∧ W.heap[Bx]? = some (.cells #[.int .i64 x.2.1.1, .int .i64 x.2.1.2] 198) ∧ a' = { tmps := #[.int .i64 key, .agg #[.bool true, .int .i64 k, .int .i64 y, .slice ad len c], .pointer (some ⟨w.heap.size, 0, none⟩), .pointer (some ⟨w.heap.size + 1, 0, none⟩), .slice none 0 0, .pointer (some ⟨w3.heap.size, 0, none⟩), .pointer (some ⟨w3.heap.size + 1 + 1, 0, none⟩), undef, .pointer (some ⟨Bx, 0, none⟩), .pointer (some ⟨w.heap.size + 1, 0, none⟩), .bool true, .bool false, undef, undef, undef, .pointer (some ⟨w.heap.size + 1, 1, none⟩), .agg #[.int .i64 k, .int .i64 y], .agg #[.int .i64 k, .int .i64 y], .slice a3 lf.length c3, .slice a3 lf.length c3, .slice (some ⟨w3.heap.size + 1, 0, none⟩) 1 1, .pointer (some ⟨w.heap.size + 1, 3, none⟩), .slice ad len c, .func (.func 185) #[] #[.pointer (some ⟨w3.heap.size + 1 + 1 + 1, 0, none⟩)], .int .i64 x.1, .agg #[.int .i64 x.2.1.1, .int .i64 x.2.1.2], undef, undef, undef, undef, undef, undef, undef, undef, undef, undef, undef], defers := [] }) ?hAx ?assign ?body ?done ?stop
  case hav => exact fun h => ⟨(hav h).1, by have := (hav h).2; omega⟩
  case hE => exact fun j hj => by rw [(gP_at HFK.out hj).2, (gP_at HFK.out hj).1]
  case hc => exact fun j hj => ⟨((hB4.cell (p := ⟨b, off + j * 2, none⟩) (by have := (hav (by omega)).2; show b < w3.heap.size; omega)).trans (hBw3.cell (p := ⟨b, off + j * 2, none⟩) (hav (by omega)).2)).trans (hcc j hj).1, ((hB4.cell (p := ⟨b, off + j * 2 + 1, none⟩) (by have := (hav (by omega)).2; show b < w3.heap.size; omega)).trans (hBw3.cell (p := ⟨b, off + j * 2 + 1, none⟩) (hav (by omega)).2)).trans (hcc j hj).2⟩
  case hKb =>
    intro W l o o' hl h h1 h2
    refine ⟨belowK_b (w := w4) (by omega) W l o o' hl h h1 h2, fun q cs hq => ?_⟩
    have hne : q ≠ l := fun e => by subst e; rw [h] at hq; cases hq; simp [Obj.isCells] at h1
    rw [World.putObj_heap_other hne]
    exact hq
  case hAx =>
    rintro x a' - A B row ⟨Bx, h1, h2, h3⟩ hg hr
    refine ⟨Bx, h1, grown_blk hg h2 (fun e => ?_), h3⟩
    obtain ⟨-, o, ho, hn⟩ := hr Bx e.symm
    rw [h2] at ho
    cases ho
    simp [Obj.isCells] at hn
  case assign =>
    rintro l' pre x W K hPI' hK
    gi_wp2
    obtain ⟨⟨a, c', g, cp, us, h1, h2, h3, h4, h5⟩, hb', hz'⟩ := hPI'
    have hb1 := one_new (w := W) (.cells #[.int .i64 x.2.1.1, .int .i64 x.2.1.2] 198)
    exact hK _ _ ((KeepsOthers.alloc _ _).from _) (KpT.of_below (by omega) hb1) ⟨⟨a, c', g, cp, us, (hb1.block _ (Array.getElem?_eq_some_iff.1 h1).1).trans h1, (hb1.block _ (Array.getElem?_eq_some_iff.1 h2).1).trans h2, own_below h3 hb1, own_below h4 hb1, h5.below hb1⟩, hb'.alloc hb'.size _, Nat.le_trans hz' hb1.size⟩ ⟨W.heap.size, hz', heap_alloc_new W _, rfl⟩
  case body =>
    rintro l' pre x a' W hl ⟨r, hr⟩ ⟨⟨a, c', g, cp, us, h1, h2, h3, h4, h5⟩, hb', hz'⟩ ⟨Bx, hBx, hbk, rfl⟩ hlt
    obtain ⟨xa, ⟨⟨xb, xo⟩, hx⟩⟩ := x
    dsimp only at hbk ⊢
    obtain ⟨k0, k1, -, -⟩ := two_cellsV hbk
    have hxb := fkB_bd hx
    have hlo := pzs_ok (key := key) hlb hll pre
    have hsm := sm_ok (bs := (pzs key lf pre).2) (by omega)
    have HSN : Hid (pzs key lf (pre ++ [(xa, (⟨(xb, xo), hx⟩ : Fp))]) = ((pzs key lf pre).1 ++ [tagL 5 (ndL key xb xo (sumL (pzs key lf pre).2))], tagL 5 (ndL key xb xo (sumL (pzs key lf pre).2)))) := pzs_snoc _ _ _ _
    have hSm : ∀ w', Below W.heap.size W w' → Calls Tryz.prog 92 #[.slice a (pzs key lf pre).2.length c'] w' fun e w'' => e = .returned (.agg #[.int .i64 0, .int .i64 (sumL (pzs key lf pre).2)]) ∧ Below w'.heap.size w' w'' := fun w' h => by
      have q := implSumOf_any _ (pzs key lf pre).2 w' (own_ints (own_below h4 h)) hlo.1 (by omega)
      rw [hsm.1, hsm.2] at q
      exact q
    have hFB := fun w => forkBytes_any key xb xo (sumL (pzs key lf pre).2) w (inB_bd hk) hxb.1 hxb.2 (sumL_bd _)
    have hpl := pzs_len key lf pre
    have hf := field_IR1
    have ck := box1_cell ((hb'.block w.heap.size (by omega)).trans HK3.out)
    have cB := box1_cell h1
    have hltX : Bx < W.heap.size := (Array.getElem?_eq_some_iff.1 hbk).1
    have hltB : w3.heap.size < W.heap.size := by omega
    have HH1 : Hid (W.heap[w3.heap.size]? = some (.cells #[.slice a (pzs key lf pre).2.length c'] 134)) := h1
    have HH2 : Hid (W.heap[w3.heap.size + 1 + 1]? = some (.cells #[.slice (some ⟨g, 0, none⟩) (pre.length + 1) cp] 253)) := h2
    have HH3 : Hid (W.ownsRow (w3.heap.size + 1) 134 1 (.slice (some ⟨g, 0, none⟩) (pre.length + 1) cp) (pre.length + 1) us) := h3
    have HH5 : Hid (PcRows W w.heap.size us (pzs key lf pre).1) := h5
    have HHX : Hid (W.heap[Bx]? = some (.cells #[.int .i64 xb, .int .i64 xo] 198)) := hbk
    have H3 : Hid (Below w3.heap.size w3 W) := hb'
    have HPL : Hid (pre.length + 1 ≤ 8) := (by omega : pre.length + 1 ≤ 8)
    generalize sumL (pzs key lf pre).2 = sp at *
    generalize tagL 5 (ndL key xb xo sp) = ny at *
    generalize (pzs key lf pre).2 = py at *
    generalize (pzs key lf pre).1 = ps at *
    have hSk : W.cell? ⟨w.heap.size, 0, none⟩ = some (.int .i64 key) ∧ W.cell? ⟨Bx, 0, none⟩ = some (.int .i64 xb) ∧ W.cell? ⟨Bx, 1, none⟩ = some (.int .i64 xo) := ⟨ck, k0, k1⟩
    have HS : Hid (∀ w', Below W.heap.size W w' → w'.cell? ⟨w.heap.size, 0, none⟩ = some (.int .i64 key) ∧ w'.cell? ⟨Bx, 0, none⟩ = some (.int .i64 xb) ∧ w'.cell? ⟨Bx, 1, none⟩ = some (.int .i64 xo)) := fun w' h => ⟨(h.cell (p := ⟨w.heap.size, 0, none⟩) (by show w.heap.size < W.heap.size; omega)).trans ck, (h.cell (p := ⟨Bx, 0, none⟩) hltX).trans k0, (h.cell (p := ⟨Bx, 1, none⟩) hltX).trans k1⟩
    have HB : Hid (∀ w', Below W.heap.size W w' → w'.heap[w3.heap.size]? = some (.cells #[.slice a py.length c'] 134)) := fun w' h => (h.block _ hltB).trans HH1.out
    have hbb := Below.refl W.heap.size W
    have cBd : W.drew.cell? ⟨w3.heap.size, 0, none⟩ = some (.slice a py.length c') := cB
    clear h1 h2 h3 h4 h5 hxb hlo hsm hpl hbk
    gi_wp2
    refine region_round (S := fun w' => w'.cell? ⟨w.heap.size, 0, none⟩ = some (.int .i64 key) ∧ w'.cell? ⟨Bx, 0, none⟩ = some (.int .i64 xb) ∧ w'.cell? ⟨Bx, 1, none⟩ = some (.int .i64 xo)) (by kernel_rfl) ?nd ?no ?held
    case nd =>
      intro i o ho c
      rcases i with _ | _ | _ | _ | _ | _ | _ | i <;> simp at ho <;> (try subst ho) <;> simp
    case no =>
      rintro ⟨_, _, h⟩
      exact h
    case held =>
      have hHeld : W.drew.cell? ⟨w.heap.size, 0, none⟩ = some (.int .i64 key) ∧ W.drew.cell? ⟨Bx, 0, none⟩ = some (.int .i64 xb) ∧ W.drew.cell? ⟨Bx, 1, none⟩ = some (.int .i64 xo) := hSk
      refine h_take (i := 0) (d := (some 26)) (v := ?vq1) (by rfl) (by kernel_rfl) (by kernel_rfl) (by kernel_rfl) (fun _ _ _ h => h) (by rfl) ?hyq1 hHeld ?restq1
      case hyq1 =>
        intro o ho
        simp only [List.getElem?_toArray, List.getElem?_cons_zero, Option.some.injEq] at ho
        subst ho
        rintro w' ⟨s0, s1, s2⟩
        first | (go_simp; done) | (go_simp; with_reducible rfl)
      try simp only [Act.put, List.setIfInBounds_toArray, List.set_cons_zero, List.set_cons_succ]
      refine h_take (i := 1) (d := (some 27)) (v := ?vq2) (by rfl) (by kernel_rfl) (by kernel_rfl) (by kernel_rfl) (fun _ _ _ h => h) (by rfl) ?hyq2 hHeld ?restq2
      case hyq2 =>
        intro o ho
        simp only [List.getElem?_toArray, List.getElem?_cons_succ, List.getElem?_cons_zero, Option.some.injEq] at ho
        subst ho
        rintro w' ⟨s0, s1, s2⟩
        first | (go_simp; done) | (go_simp; with_reducible rfl)
      try simp only [Act.put, List.setIfInBounds_toArray, List.set_cons_zero, List.set_cons_succ]
      refine wpAnyH_ready (rs := [2]) (by kernel_rfl) (by simp) ?_
      refine AllReadyH.cons rfl (fun K hK => ?_) AllReadyH.nil
      go_simp
      try skip
      refine hK.out _ _ ?_ (fun hHeld => ?_)
      · first | exact hSk | exact HS.out _ hbb | exact HS.out _ hbb.drew
      clear hK K
      try simp only [Act.put, List.setIfInBounds_toArray, List.set_cons_zero, List.set_cons_succ]
      refine wpAnyH_ready (rs := [3]) (by kernel_rfl) (by simp) ?_
      refine AllReadyH.cons rfl (fun K hK => ?_) AllReadyH.nil
      go_simp
      refine (hSm _ hbb.drew).mono ?_
      rintro e wq ⟨rfl, hbq⟩
      have hbb : Below W.heap.size W wq := below_after_of hbb.drew hbq
      refine hK.out _ _ ?_ (fun hHeld => ?_)
      · first | exact hSk | exact HS.out _ hbb | exact HS.out _ hbb.drew
      clear hK K
      try simp only [Act.put, List.setIfInBounds_toArray, List.set_cons_zero, List.set_cons_succ]
      refine h_take (i := 4) (d := (some 30)) (v := ?vq3) (by rfl) (by kernel_rfl) (by kernel_rfl) (by kernel_rfl) (fun _ _ _ h => h) (by rfl) ?hyq3 hHeld ?restq3
      case hyq3 =>
        intro o ho
        simp only [List.getElem?_toArray, List.getElem?_cons_succ, List.getElem?_cons_zero, Option.some.injEq] at ho
        subst ho
        rintro w' ⟨s0, s1, s2⟩
        first | (go_simp; done) | (go_simp; with_reducible rfl)
      try simp only [Act.put, List.setIfInBounds_toArray, List.set_cons_zero, List.set_cons_succ]
      refine wpAnyH_ready (rs := [5]) (by kernel_rfl) (by simp) ?_
      refine AllReadyH.cons rfl (fun K hK => ?_) AllReadyH.nil
      go_simp
      refine (hFB _).mono ?_
      rintro e wr ⟨a5, c5, rfl, hbr5, own5⟩
      have hbb5 : Below W.heap.size W wr := below_after_of hbb hbr5
      have cB := box1_cell (HB.out _ hbb5)
      have fB : wr.frozen? ⟨w3.heap.size, 0, none⟩ = false := (by unfold World.frozen?; rw [HB.out _ hbb5]; rfl)
      refine hK.out _ _ ?_ (fun hHeld => ?_)
      · exact HS.out _ hbb5
      clear hK K
      try simp only [Act.put, List.setIfInBounds_toArray, List.set_cons_zero, List.set_cons_succ]
      refine wpAnyH_ready (rs := [6]) (by kernel_rfl) (by simp) ?_
      refine AllReadyH.cons rfl (fun K hK => ?_) AllReadyH.nil
      go_simp
      try skip
      refine hK.out _ _ ?_ (fun hHeld => ?_)
      · exact ⟨(World.cell?_setCell_other _ _ _ _ (by first | (simp; done) | (simp; omega))).trans (HS.out _ hbb5).1, (World.cell?_setCell_other _ _ _ _ (by first | (simp; done) | (simp; omega))).trans (HS.out _ hbb5).2.1, (World.cell?_setCell_other _ _ _ _ (by first | (simp; done) | (simp; omega))).trans (HS.out _ hbb5).2.2⟩
      clear hK K
      try simp only [Act.put, List.setIfInBounds_toArray, List.set_cons_zero, List.set_cons_succ]
      refine wpAnyH_done (by kernel_rfl) ?_ _
      obtain ⟨W5, hW5⟩ : ∃ W5, W5 = wr.setCell ⟨w3.heap.size, 0, none⟩ (.slice a5 ny.length c5) := ⟨_, rfl⟩
      have hg5 : wr.grownBy W5 (some w3.heap.size) := by rw [hW5]; exact grownBy_setCell' _ _ _
      have HX5 : Hid (W5.heap[w3.heap.size]? = some (.cells #[.slice a5 ny.length c5] 134)) := (by rw [hW5]; exact heap_setCell_same _ _ 0 _ _ _ (HB.out _ hbb5) : W5.heap[w3.heap.size]? = some (.cells #[.slice a5 ny.length c5] 134))
      have hlt2 := (Array.getElem?_eq_some_iff.1 HH2.out).1
      have HY5 : Hid (Boxed W5 (w3.heap.size + 1 + 1) 253 (.slice (some ⟨g, 0, none⟩) (pre.length + 1) cp)) := (grown_blk hg5 ((hbb5.block _ hlt2).trans HH2.out) (by simp; omega) : W5.heap[w3.heap.size + 1 + 1]? = _)
      have HR5 : Hid (W5.ownsRow (w3.heap.size + 1) 134 1 (.slice (some ⟨g, 0, none⟩) (pre.length + 1) cp) (pre.length + 1) us) := own_grown (own_below HH3.out hbb5) hg5 (Or.inr (fun e => by have := (HH3.out.lt _ e).1; omega))
      have hnu : ∀ (b : Nat) (cur : Array Value), some w3.heap.size = some b → wr.heap[b]? ≠ some (.cells cur 5) := fun b cur e => by cases e; exact not_type (HB.out _ hbb5) (by decide)
      have HO5 : Hid (W5.ownsRow w.heap.size 5 1 (.slice a5 ny.length c5) ny.length (ny.map (Value.int .u8))) := own_aside (own_mono own5 (by have := hbb.size; omega)) hg5 hnu
      have HP5 : Hid (PcRows W5 w.heap.size us ps) := (HH5.out.below hbb5).aside hg5 hnu
      have HZ5 : Hid (W.heap.size ≤ W5.heap.size) := Nat.le_trans hbb5.size hg5.size
      have HB5 : Hid (Below w3.heap.size W W5) := (hbb5.mono (Nat.le_of_lt hltB)).grown hg5 (Nat.le_trans (Nat.le_of_lt hltB) hbb5.size) (fun k hk => by cases hk; exact Nat.le_refl _)
      have HK5 : Hid (∀ (k : Nat) (o : Obj), k ≠ w3.heap.size → W.heap[k]? = some o → W5.heap[k]? = some o) := fun k o h1 h2 => grown_blk hg5 ((hbb5.block k (Array.getElem?_eq_some_iff.1 h2).1).trans h2) (by simp; exact h1)
      have y0 := HY5.out.cell
      have x0 := box1_cell HX5.out
      obtain ⟨i0, hi, hz0, hz1, hz2⟩ := info_parts Tryz.infoBs
      rw [← hW5]
      clear hW5 hg5 hnu hHeld hFB hSm hbr5 own5 cB fB HB HS
      gi_wp2_with (gi_at_builtin; refine wpListIn_append_own _ rfl _ _ 253 rfl (w3.heap.size + 1) 134 i0 _ 1 24 Tryz.underlying253 hi hz0 hz1 hz2 rfl (by decide) _ _ _ rfl (HR5.out.alloc _) ⟨W5.heap.size, 0, none⟩ 1 1 [.slice a5 ny.length c5] rfl rfl (cell_one_new _ _ _) (by simp [Value.oneCell']) (by have := HPL.out; unfold maxLen; omega) (by have := HPL.out; omega) (by have := HZ5.out; simp; omega) ?_; intro v' w8 hown' hgrow hnil; obtain ⟨g', cap', rfl⟩ := ownsRow_succ hown'; obtain ⟨hv1, hv2, hr2, hk2, hb2⟩ := HY5.out.appended (by decide) HR5.out (by have := HZ5.out; omega) (by omega) hown' hgrow; have hc1 := hv1.cell; have hf1 := hv1.frozen; have HHG : Hid ((W5.alloc (.cells #[.slice a5 ny.length c5] 134)).grownBy w8 (Value.slice (some ⟨g, 0, none⟩) (pre.length + 1) cp).ownBlock) := hgrow; clear hgrow hnil)
      obtain ⟨curg, hcg⟩ := own_type (HR5.out.alloc (.cells #[.slice a5 ny.length c5] 134)) (g := g) rfl
      have hkeep : ∀ (k : Nat) (o : Obj), k ≠ w3.heap.size → k ≠ g → k ≠ w3.heap.size + 1 + 1 → W.heap[k]? = some o → (w8.setCell ⟨w3.heap.size + 1 + 1, 0, none⟩ (.slice (some ⟨g', 0, none⟩) (pre.length + 1 + 1) cap')).heap[k]? = some o := fun k o e1 e2 e3 e4 => by
        rw [heap_setCell_other _ _ _ _ e3]
        refine grown_blk HHG.out (((one_new _).block k (Array.getElem?_eq_some_iff.1 (HK5.out k o e1 e4)).1).trans (HK5.out k o e1 e4)) (fun e => e2 ?_)
        simpa [Value.ownBlock] using e
      have hgo : ∀ (b : Nat) (cur : Array Value), (Value.slice (some ⟨g, 0, none⟩) (pre.length + 1) cp).ownBlock = some b → (W5.alloc (.cells #[.slice a5 ny.length c5] 134)).heap[b]? ≠ some (.cells cur 5) := fun b cur e => by
        have eb : g = b := by simpa [Value.ownBlock] using e
        subst eb
        exact not_type hcg (by decide)
      have hgs : ∀ (b : Nat) (cur : Array Value), some (w3.heap.size + 1 + 1) = some b → w8.heap[b]? ≠ some (.cells cur 5) := fun b cur e => by cases e; exact not_type hv1 (by decide)
      have hgt : ∀ (cs : Array Value) (t : TypeId), t ≠ 134 → W.heap[g]? ≠ some (.cells cs t) := fun cs t ht h => by
        obtain ⟨cur, hc⟩ := own_type HH3.out (g := g) rfl
        rw [h] at hc
        simp at hc
        exact ht hc.2
      have q1 : (w8.setCell ⟨w3.heap.size + 1 + 1, 0, none⟩ (.slice (some ⟨g', 0, none⟩) (pre.length + 1 + 1) cap')).heap[w3.heap.size]? = some (.cells #[.slice a5 ny.length c5] 134) := by
        rw [heap_setCell_other _ _ _ _ (by show w3.heap.size ≠ w3.heap.size + 1 + 1; omega)]
        refine grown_blk HHG.out (((one_new _).block _ (Array.getElem?_eq_some_iff.1 HX5.out).1).trans HX5.out) (fun e => ?_)
        have := (HR5.out.lt g rfl).1
        have e' : w3.heap.size = g := by simpa [Value.ownBlock] using e
        omega
      have q2 := own_aside (own_aside (own_below HO5.out (one_new (.cells #[.slice a5 ny.length c5] 134))) HHG.out hgo) (grownBy_setCell' w8 (w3.heap.size + 1 + 1) (.slice (some ⟨g', 0, none⟩) (pre.length + 1 + 1) cap')) hgs
      have q3 := ((HP5.out.below (one_new (.cells #[.slice a5 ny.length c5] 134))).aside HHG.out hgo).aside (grownBy_setCell' w8 (w3.heap.size + 1 + 1) (.slice (some ⟨g', 0, none⟩) (pre.length + 1 + 1) cap')) hgs
      have hszE : W.heap.size ≤ (w8.setCell ⟨w3.heap.size + 1 + 1, 0, none⟩ (.slice (some ⟨g', 0, none⟩) (pre.length + 1 + 1) cap')).heap.size := by
        rw [World.size_setCell]
        exact Nat.le_trans HZ5.out (Nat.le_trans (one_new _).size HHG.out.size)
      refine ⟨⟨hszE, fun k o hk ho hno => ?_⟩, ⟨(HB5.out.mono (by omega)).trans (hb2.mono (by omega)), fun k cs hk => ?_⟩, ⟨a5, c5, g', cap', us ++ [.slice a5 ny.length c5], ?_⟩, ?_, Nat.le_trans hz' hszE⟩
      · refine hkeep k o (by omega) (fun e => ?_) (by have := HZ4.out; omega) ho
        subst e
        obtain ⟨cur, hc⟩ := own_type HH3.out (g := k) rfl
        rw [hc] at ho
        cases ho
        simp [Obj.isCells] at hno
      · refine hkeep k _ (fun e => ?_) (fun e => ?_) (fun e => ?_) hk
        · subst e; exact not_type HH1.out (by decide) hk
        · subst e; exact hgt _ _ (by decide) hk
        · subst e; exact not_type HH2.out (by decide) hk
      · rw [HSN.out, List.length_append]
        exact ⟨q1, hv2, hr2, q2, q3.snoc q2⟩
      · exact (H3.out.trans HB5.out).trans (hb2.mono (by omega))
  case done =>
    rintro D ys W hD rfl ⟨⟨a, c', g, cp, us, h1, h2, h3, h4, h5⟩, hb', hz'⟩ hKD
    rw [upTo_len] at h2 h3
    rw [pzs_up HFK.out len (Nat.le_refl _)] at h5
    have c0 := box1_cell h2
    have hB6 : Below w.heap.size w (W.putObj D (.deferred none)) := (below_after_of hBw3 hb').trans (belowK_b (w := w) (Nat.le_refl _) W D _ _ (by omega) hKD rfl rfl)
    have hR6 := ownsRow_putObj h3 (.deferred none) hKD rfl
    have hP6 : PcRows (W.putObj D (.deferred none)) w.heap.size us ((List.range (len + 1)).map (pcL key f lf)) := ⟨h5.n, fun j u ys e1 e2 => ownsRow_putObj (h5.r j u ys e1 e2) (.deferred none) hKD rfl⟩
    have HPL : Hid (((List.range (len + 1)).map (pcL key f lf)).length = len + 1) := (by simp : ((List.range (len + 1)).map (pcL key f lf)).length = len + 1)
    clear h1 h2 h3 h4 h5 hb'
    go_wp2
    refine ⟨by simp, .inl ⟨_, _, rfl, run_takeDeferred hKD, ?_⟩⟩
    refine ⟨.slice (some ⟨g, 0, none⟩) (len + 1) cp, by simp [results, Tryz.results168, go_sem, *], hB6, g, cp, us, by rw [HPL.out], ?_, hP6⟩
    rw [HPL.out]
    exact own_mono hR6 (by omega)
  case stop =>
    rintro D c' pre W _ _ h _
    exact h.elim
end U
end Go.Proofs.YtdbbmclobmigdaaGreat

/- The pieces of a trail, and what comes of climbing it, as the program finds them. -/
namespace Go.Proofs.YtdbbmclobmigdaaGreat
open Go.RowKit Go.Shelf
namespace U
/-- The piece of a trail's leaf, or of nothing. -/
def lfB (x : Bool) (k y : Int) : List Int := if x then tagL 4 [k, y] else tagL 9 []
theorem lfB_sum (x : Bool) (k y : Int) : sumL (lfB x k y) = lfS x k y := by cases x <;> rfl
/-- The pieces of a trail. -/
def pcsL (key : Int) (x : Bool) (k y : Int) (f : Prl) : List (List Int) := (List.range (f.length + 1)).map (pcL key f (lfB x k y))
theorem pcsL_len (key : Int) (x : Bool) (k y : Int) (f : Prl) : (pcsL key x k y f).length = f.length + 1 := by simp [pcsL]
theorem pcsL_at {key : Int} {x : Bool} {k y : Int} {f : Prl} {j : Nat} (hj : j ≤ f.length) : (pcsL key x k y f)[j]? = some (pcL key f (lfB x k y) j) := by
  unfold pcsL
  rw [List.getElem?_map, List.getElem?_range (by omega)]
  rfl
theorem lfB_bts {x : Bool} {k y : Int} {f : Prl} (h0 : tlF x k y f = 0) : Bts (lfB x k y) := by
  have hf := fine_bd (tlF_ok h0).leaf
  cases x
  · exact tagL_bts (by omega) rfl
  · exact tagL_bts (by omega) (by simp [sumB_iff]; omega)
theorem lfB_len (x : Bool) (k y : Int) : (lfB x k y).length ≤ 8 := by
  cases x <;> simp [lfB, tagL_len]
theorem pcL_bts {key : Int} {x : Bool} {k y : Int} {f : Prl} (h0 : tlF x k y f = 0) {j : Nat} (hj : j ≤ f.length) : Bts (pcL key f (lfB x k y) j) := by
  rcases j with _ | j
  · exact lfB_bts h0
  · have h1 := fkB_bd (fkS_at (tlF_ok h0).fk (k := j) (by omega)).1
    exact tagL_bts (by omega) (ndL_ok h1.1 h1.2 (clmN_bd (sumL_bd _) _))
theorem pcL_len (key : Int) (x : Bool) (k y : Int) (f : Prl) (j : Nat) : (pcL key f (lfB x k y) j).length ≤ 8 := by
  rcases j with _ | j
  · exact lfB_len x k y
  · show (tagL 5 _).length ≤ 8
    rw [tagL_len, ndL_len]
    omega
/-- A piece that was told. -/
theorem PcRows.at {W : World} {B A : Nat} {us : List Value} {ps : List (List Int)} {g c n : Nat} (h : PcRows W B us ps) (ho : W.ownsRow A 134 1 (.slice (some ⟨g, 0, none⟩) n c) n us) {j : Nat} {ys : List Int} (hj : ps[j]? = some ys) :
    ∃ a d, W.cell? ⟨g, j, none⟩ = some (.slice a ys.length d) ∧ W.ownsRow B 5 1 (.slice a ys.length d) ys.length (ys.map (Value.int .u8)) := by
  have hlt : j < us.length := by rw [h.n]; exact (List.getElem?_eq_some_iff.1 hj).1
  have hu : us[j]? = some us[j] := List.getElem?_eq_getElem hlt
  have hr := h.r j us[j] ys hu hj
  obtain ⟨a, d, e⟩ := own_shape hr
  have hc := ho.cells (g := g) rfl j us[j] hu
  have hadd : (⟨g, 0, none⟩ : Addr).add j = ⟨g, j, none⟩ := by unfold Addr.add; split <;> simp_all
  rw [hadd] at hc
  rw [e] at hc hr
  exact ⟨a, d, hc, hr⟩
set_option maxRecDepth 100000 in
set_option maxHeartbeats 2000000 in
theorem trailPieces_none (key : Int) (sv : Value) (w : World) (hv : Prs w sv []) :
    Calls Tryz.prog 168 #[.int .i64 key, .agg #[.bool false, .int .i64 0, .int .i64 0, sv]] w fun e w' => PcsAns w [tagL 9 []] e w' := by
  have hPc := piece_none.c
  simp only [pcF_none, pcV_none, Tr.bts_none] at hPc
  obtain ⟨ad, c, rfl⟩ := hv.shape
  clear hv
  generalize tagL 9 [] = lf at *
  obtain ⟨W, hW⟩ : ∃ W, W = (w.alloc (.cells #[.int .i64 key] 2)).alloc (.cells #[.bool false, .int .i64 0, .int .i64 0, .slice ad 0 c] 48) := ⟨_, rfl⟩
  have HW : Hid ((w.alloc (.cells #[.int .i64 key] 2)).alloc (.cells #[.bool false, .int .i64 0, .int .i64 0, .slice ad 0 c] 48) = W) := hW.symm
  have hB : Below w.heap.size w W := by rw [hW]; exact two_new _ _
  clear hW
  go_enter Tryz.func168, Tryz.ntmps168
  go_wp2_with fail
  rw [HW.out]
  refine (hPc _).mono ?_
  rintro e w3 ⟨u3, rfl, own3, hb3⟩
  have HO3 : Hid (w3.ownsRow w.heap.size 5 1 u3 lf.length (lf.map (Value.int .u8))) := own_mono own3 hB.size
  obtain ⟨a3, c3, rfl⟩ := own_shape own3
  have hB3 := below_after_of hB hb3
  clear hPc own3 hb3
  go_wp2
  go_ret
  exact ⟨hB3.alloc hB3.size _, w3.heap.size, 1, [.slice a3 lf.length c3], rfl, own_oneP w3 _ _ _ hB3.size, PcRows.one (own_below HO3.out (one_new _))⟩
theorem trailPieces_any (key : Int) (x : Bool) (k y : Int) (sv : Value) (f : Prl) (w : World) (hv : Prs w sv f) (hk : inB key 0 255 = true) (h0 : tlF x k y f = 0) :
    Calls Tryz.prog 168 #[.int .i64 key, .agg #[.bool x, .int .i64 k, .int .i64 y, sv]] w fun e w' => PcsAns w (pcsL key x k y f) e w' := by
  cases x
  · obtain ⟨rfl, rfl, rfl⟩ := (tlF_ok h0).any rfl
    exact trailPieces_none key sv w hv
  · exact trailPieces_some key k y sv f w hv hk h0
end U
end Go.Proofs.YtdbbmclobmigdaaGreat

/- Climbing a trail: what the program and the model answer at every argument. -/
namespace Go.Proofs.YtdbbmclobmigdaaGreat
open Go.RowKit
namespace U
def clC (key : Int) (x : Bool) (k y : Int) (f : Prl) : Int := if inB key 0 255 = true then tlF x k y f else 3
def clW (key : Int) (x : Bool) (k y : Int) (f : Prl) : Int := if clC key x k y f = 0 then clV key x k y f else 0
theorem clC_out {key : Int} {x : Bool} {k y : Int} {f : Prl} (h : inB key 0 255 = false) : clC key x k y f = 3 := by unfold clC; rw [h]; rfl
theorem clC_in {key : Int} {x : Bool} {k y : Int} {f : Prl} (h : inB key 0 255 = true) : clC key x k y f = tlF x k y f := by unfold clC; rw [h]; rfl
theorem clW_no {key : Int} {x : Bool} {k y : Int} {f : Prl} (h : clC key x k y f ≠ 0) : clW key x k y f = 0 := if_neg h
theorem clW_ok {key : Int} {x : Bool} {k y : Int} {f : Prl} (h : clC key x k y f = 0) : clW key x k y f = clV key x k y f := if_pos h
set_option maxRecDepth 100000 in
set_option maxHeartbeats 2000000 in
theorem implClimbNew_out (key : Int) (x : Bool) (k y : Int) (sv : Value) (f : Prl) (w : World) (hv : Prs w sv f) (hk : inB key 0 255 = false) :
    Calls Tryz.prog 150 #[.int .i64 key, .agg #[.bool x, .int .i64 k, .int .i64 y, sv]] w fun e w' => IntAns w 3 0 e w' := by
  have hK := fun w => isKey_any key w
  rw [hk] at hK
  obtain ⟨ad, c, rfl⟩ := hv.shape
  generalize f.length = n at *
  clear hv hk
  go_enter Tryz.func150, Tryz.ntmps150
  go_wp2_with fail
  refine (hK _).mono ?_
  rintro e w1 ⟨rfl, hw1⟩
  subst hw1
  clear hK
  go_wp2
  refine bodyPost_ret (v := .agg #[.int .i64 3, .int .i64 0]) (by simp [results, Tryz.results150, go_sem]) rfl ⟨rfl, ?_⟩
  exact two_new _ _
set_option maxRecDepth 100000 in
set_option maxHeartbeats 2000000 in
theorem implClimbNew_rest (key : Int) (x : Bool) (k y : Int) (sv : Value) (f : Prl) (w : World) (hv : Prs w sv f) (hk : inB key 0 255 = true) (q r : Int) (hq : (q = tlF x k y f ∧ q ≠ 0 ∧ r = 0) ∨ (tlF x k y f = 0 ∧ q = 0 ∧ r = clV key x k y f)) :
    Calls Tryz.prog 150 #[.int .i64 key, .agg #[.bool x, .int .i64 k, .int .i64 y, sv]] w fun e w' => IntAns w q r e w' := by
  have hK := fun w => isKey_any key w
  have hF := fun w' h => implTrailFault_any x k y sv f w' (hv.below (w' := w') h)
  have hP := fun h0 w' h => trailPieces_any key x k y sv f w' (hv.below (w' := w') h) hk h0
  rw [hk] at hK
  obtain ⟨ad, c, rfl⟩ := hv.shape
  obtain ⟨len, hlp⟩ : ∃ len, len = f.length := ⟨_, rfl⟩
  have HLP : Hid (len = f.length) := hlp
  rw [← hlp] at hF hP ⊢
  obtain ⟨W, hW⟩ : ∃ W, W = (w.alloc (.cells #[.bool x, .int .i64 k, .int .i64 y, .slice ad len c] 48)).alloc (.cells #[.int .i64 0, .int .i64 0] 58) := ⟨_, rfl⟩
  have HW : Hid ((w.alloc (.cells #[.bool x, .int .i64 k, .int .i64 y, .slice ad len c] 48)).alloc (.cells #[.int .i64 0, .int .i64 0] 58) = W) := hW.symm
  have hB : Below w.heap.size w W := by rw [hW]; exact two_new _ _
  have HLL : Hid (W.heap[w.heap.size]? = some (.cells #[.bool x, .int .i64 k, .int .i64 y, .slice ad len c] 48) ∧ W.heap[w.heap.size + 1]? = some (.cells #[.int .i64 0, .int .i64 0] 58)) := (by
    rw [hW]
    have h1 := heap_alloc_new (w.alloc (.cells #[.bool x, .int .i64 k, .int .i64 y, .slice ad len c] 48)) (.cells #[.int .i64 0, .int .i64 0] 58)
    simp only [World.size_alloc] at h1
    exact ⟨((one_new _).block w.heap.size (by simp)).trans (heap_alloc_new w _), h1⟩ : _ ∧ _)
  have hz0 : Hid (w.heap.size + 1 < W.heap.size) := (Array.getElem?_eq_some_iff.1 HLL.out.2).1
  obtain ⟨t0, t1, t2, t3⟩ := TlBlk.cells HLL.out.1
  have HT : Hid (∀ w', Below W.heap.size W w' → TlBlk w' w.heap.size x k y (.slice ad len c)) := fun w' h => TlBlk.below HLL.out.1 h
  rcases hq with ⟨rfl, hq, rfl⟩ | ⟨hq, rfl, rfl⟩
  · generalize tlF x k y f = q at *
    have hqn : (q != 0) = true := by simpa using hq
    clear hW hv hk hq hlp hP
    go_enter Tryz.func150, Tryz.ntmps150
    go_wp2_with fail
    rw [HW.out]
    refine (hK _).mono ?_
    rintro e w1 ⟨rfl, rfl⟩
    clear hK
    go_wp2_with fail
    refine (hF _ hB).mono ?_
    rintro e w2 ⟨rfl, hb2⟩
    obtain ⟨g0, g1, f0, f1⟩ := two_cellsV ((hb2.block (w.heap.size + 1) hz0.out).trans HLL.out.2)
    have hB2 := below_after_of hB hb2
    clear hF hb2 t0 t1 t2 t3
    go_wp2
    refine bodyPost_ret (v := .agg #[.int .i64 q, .int .i64 0]) (by simp [results, Tryz.results150, go_sem, *]) rfl ⟨rfl, ?_⟩
    exact (hB2.setCell (by show w.heap.size ≤ w.heap.size + 1; omega) _).setCell (by show w.heap.size ≤ w.heap.size + 1; omega) _
  · have hPc := hP hq
    have hpb := pcL_bts (key := key) hq (Nat.le_refl _)
    have hpn := pcL_len key x k y f f.length
    have hsm := sm_ok (bs := pcL key f (lfB x k y) f.length) (by omega)
    have hpv : smV (pcL key f (lfB x k y) f.length) = clV key x k y f := by rw [hsm.2, pcL_sum, lfB_sum]; rfl
    have hS := fun v w h => implSumOf_any v (pcL key f (lfB x k y) f.length) w h hpb (by omega)
    rw [hpv, hsm.1] at hS
    have HAT : Hid ((pcsL key x k y f)[len]? = some (pcL key f (lfB x k y) f.length)) := (by rw [hlp]; exact pcsL_at (Nat.le_refl _) : (pcsL key x k y f)[len]? = some (pcL key f (lfB x k y) f.length))
    have HLN : Hid ((pcsL key x k y f).length = len + 1) := (by rw [hlp]; exact pcsL_len _ _ _ _ _ : (pcsL key x k y f).length = len + 1)
    have hle : len ≤ 8 := by rw [hlp]; exact (tlF_ok hq).len
    rw [hq] at hF
    generalize clV key x k y f = r at *
    generalize pcL key f (lfB x k y) f.length = ys at *
    generalize pcsL key x k y f = ps at *
    clear hW hv hk hq hlp hP hpb hpn hsm hpv
    go_enter Tryz.func150, Tryz.ntmps150
    go_wp2_with fail
    rw [HW.out]
    refine (hK _).mono ?_
    rintro e w1 ⟨rfl, rfl⟩
    clear hK
    go_wp2_with fail
    refine (hF _ hB).mono ?_
    rintro e w2 ⟨rfl, hb2⟩
    obtain ⟨m0, m1, m2, m3⟩ := (HT.out _ hb2).cells
    clear hF t0 t1 t2 t3
    go_wp2_with fail
    refine (hPc _ (below_after_of hB hb2)).mono ?_
    rintro e w3 ⟨hb3, g, cc, us, rfl, ho3, hr3⟩
    rw [HLN.out] at ho3 ⊢
    obtain ⟨a4, d4, c4, o4⟩ := hr3.at ho3 HAT.out
    have I4 := own_ints o4
    have hb13 := below_after_of hb2 hb3
    have hl1 : (0 : Int) ≤ (len : Int) := by omega
    have hl2 : (len : Int) < ((len + 1 : Nat) : Int) := by omega
    have hl3 : IntKind.i64.wrap (((len + 1 : Nat) : Int) - 1) = (len : Int) := by rw [IntKind.wrap_i64]; omega
    clear hPc hb2 hb3 hr3 m0 m1 m2 m3
    go_wp2_with fail
    refine (hS _ _ I4).mono ?_
    rintro e w4 ⟨rfl, hb4⟩
    have hb14 := below_after_of hb13 hb4
    obtain ⟨g0, g1, f0, f1⟩ := two_cellsV ((hb14.block (w.heap.size + 1) hz0.out).trans HLL.out.2)
    have hB3 := below_after_of hB hb14
    clear hS hb4 hb13 hb14 I4 c4
    go_wp2
    refine bodyPost_ret (v := .agg #[.int .i64 0, .int .i64 r]) (by simp [results, Tryz.results150, go_sem, *]) rfl ⟨rfl, ?_⟩
    exact (hB3.setCell (by show w.heap.size ≤ w.heap.size + 1; omega) _).setCell (by show w.heap.size ≤ w.heap.size + 1; omega) _
theorem implClimbNew_any (key : Int) (x : Bool) (k y : Int) (sv : Value) (f : Prl) (w : World) (hv : Prs w sv f) :
    Calls Tryz.prog 150 #[.int .i64 key, .agg #[.bool x, .int .i64 k, .int .i64 y, sv]] w fun e w' => IntAns w (clC key x k y f) (clW key x k y f) e w' := by
  rcases Bool.eq_false_or_eq_true (inB key 0 255) with hk | hk
  · by_cases h : tlF x k y f = 0
    · have hc : clC key x k y f = 0 := by rw [clC_in hk, h]
      rw [hc, clW_ok hc]
      exact implClimbNew_rest key x k y sv f w hv hk _ _ (Or.inr ⟨h, rfl, rfl⟩)
    · have hc : clC key x k y f ≠ 0 := by rw [clC_in hk]; exact h
      rw [clW_no hc]
      exact implClimbNew_rest key x k y sv f w hv hk _ _ (Or.inl ⟨clC_in hk, hc, rfl⟩)
  · rw [clW_no (by rw [clC_out hk]; decide), clC_out hk]
    exact implClimbNew_out key x k y sv f w hv hk
end U
end Go.Proofs.YtdbbmclobmigdaaGreat

/- Climbing a trail: what the model answers at every argument. -/
namespace Go.Proofs.YtdbbmclobmigdaaGreat
open Go.RowKit
namespace U
set_option maxRecDepth 100000 in
set_option maxHeartbeats 2000000 in
theorem specClimbNew_out (key : Int) (x : Bool) (k y : Int) (sv : Value) (f : Prl) (w : World) (hv : Prs w sv f) (hk : inB key 0 255 = false) :
    Calls Tryz.prog 103 #[.int .i64 key, .agg #[.bool x, .int .i64 k, .int .i64 y, sv]] w fun e w' => IntAns w 3 0 e w' := by
  have hK := fun w => l4Key_any key w
  rw [hk] at hK
  obtain ⟨ad, c, rfl⟩ := hv.shape
  generalize f.length = n at *
  clear hv hk
  go_enter Tryz.func103, Tryz.ntmps103
  go_wp2_with fail
  refine (hK _).mono ?_
  rintro e w1 ⟨rfl, hw1⟩
  subst hw1
  clear hK
  go_wp2
  refine bodyPost_ret (v := .agg #[.int .i64 3, .int .i64 0]) (by simp [results, Tryz.results103, go_sem]) rfl ⟨rfl, ?_⟩
  exact two_new _ _
set_option maxRecDepth 100000 in
set_option maxHeartbeats 2000000 in
theorem specClimbNew_rest (key : Int) (x : Bool) (k y : Int) (sv : Value) (f : Prl) (w : World) (hv : Prs w sv f) (hk : inB key 0 255 = true) (q r : Int) (hq : (q = tlF x k y f ∧ q ≠ 0 ∧ r = 0) ∨ (tlF x k y f = 0 ∧ q = 0 ∧ r = clV key x k y f)) :
    Calls Tryz.prog 103 #[.int .i64 key, .agg #[.bool x, .int .i64 k, .int .i64 y, sv]] w fun e w' => IntAns w q r e w' := by
  have hK := fun w => l4Key_any key w
  rw [hk] at hK
  obtain ⟨W, hW⟩ : ∃ W, W = (w.alloc (.cells #[.bool x, .int .i64 k, .int .i64 y, sv] 48)).alloc (.cells #[.int .i64 0, .int .i64 0] 58) := ⟨_, rfl⟩
  have HW : Hid ((w.alloc (.cells #[.bool x, .int .i64 k, .int .i64 y, sv] 48)).alloc (.cells #[.int .i64 0, .int .i64 0] 58) = W) := hW.symm
  have hB : Below w.heap.size w W := by rw [hW]; exact two_new _ _
  have H : TlBlk W w.heap.size x k y sv := by rw [hW]; exact (tl_box w x k y _).below (one_new _)
  have HR : W.heap[w.heap.size + 1]? = some (.cells #[.int .i64 0, .int .i64 0] 58) := by
    have h := heap_alloc_new (w.alloc (.cells #[.bool x, .int .i64 k, .int .i64 y, sv] 48)) (.cells #[.int .i64 0, .int .i64 0] 58)
    rw [World.size_alloc] at h
    rw [hW]
    exact h
  have hr := (Array.getElem?_eq_some_iff.1 HR).1
  have hF := l7Fault_any w.heap.size x k y sv f W H (hv.below hB)
  obtain ⟨ad, c, rfl⟩ := hv.shape
  have hCl : tlF x k y f = 0 → ∀ w', Below W.heap.size W w' → Calls Tryz.prog 133 #[.int .i64 key, .pointer (some ⟨w.heap.size, 0, none⟩), .int .i64 (f.length : Int)] w' fun e w'' => e = .returned (.int .i64 (clV key x k y f)) ∧ Below w'.heap.size w' w'' := by
    intro h0 w' hb
    have hok := tlF_ok h0
    cases x
    · obtain ⟨rfl, rfl, rfl⟩ := hok.any rfl
      exact l7Climb_none key w.heap.size 0 0 _ _ w' (H.below hb)
    · have hf := fine_bd hok.leaf
      exact l7Climb_some key w.heap.size k y ad f.length c f.length f w' (H.below hb) ((hv.below hB).below hb) rfl (inB_bd hk) hf.1 hf.2 (Nat.le_refl _) hok.len hok.fk
  obtain ⟨t0, t1, t2, t3⟩ := H.cells
  have HC : Hid (∀ w', Below W.heap.size W w' → w'.cell? ⟨w.heap.size, 3, none⟩ = some (.slice ad f.length c)) := fun w' h => (H.below h).cells.2.2.2
  rcases hq with ⟨rfl, hq, rfl⟩ | ⟨hq, rfl, rfl⟩
  · generalize tlF x k y f = q at *
    generalize f.length = len at *
    have hqn : (q != 0) = true := by simpa using hq
    clear hW hv hk hq hCl H
    go_enter Tryz.func103, Tryz.ntmps103
    go_wp2_with fail
    rw [HW.out]
    refine (hK _).mono ?_
    rintro e w1 ⟨rfl, rfl⟩
    clear hK
    go_wp2_with fail
    refine hF.mono ?_
    rintro e w2 ⟨rfl, hb2⟩
    obtain ⟨g0, g1, f0, f1⟩ := two_cellsV ((hb2.block (w.heap.size + 1) hr).trans HR)
    have hB2 := below_after_of hB hb2
    clear hF hb2 t0 t1 t2 t3
    go_wp2
    refine bodyPost_ret (v := .agg #[.int .i64 q, .int .i64 0]) (by simp [results, Tryz.results103, go_sem, *]) rfl ⟨rfl, ?_⟩
    exact (hB2.setCell (Nat.le_succ _) _).setCell (Nat.le_succ _) _
  · have hC := hCl hq
    rw [hq] at hF
    generalize clV key x k y f = r at *
    generalize f.length = len at *
    clear hW hv hk hq hCl H
    go_enter Tryz.func103, Tryz.ntmps103
    go_wp2_with fail
    rw [HW.out]
    refine (hK _).mono ?_
    rintro e w1 ⟨rfl, rfl⟩
    clear hK
    go_wp2_with fail
    refine hF.mono ?_
    rintro e w2 ⟨rfl, hb2⟩
    have m3 := HC.out _ hb2
    clear hF t0 t1 t2 t3
    go_wp2_with fail
    refine (hC _ hb2).mono ?_
    rintro e w3 ⟨rfl, hb3⟩
    have hb13 := below_after_of hb2 hb3
    obtain ⟨g0, g1, f0, f1⟩ := two_cellsV ((hb13.block (w.heap.size + 1) hr).trans HR)
    have hB3 := below_after_of hB hb13
    clear hC hb2 hb3 hb13 m3
    go_wp2
    refine bodyPost_ret (v := .agg #[.int .i64 0, .int .i64 r]) (by simp [results, Tryz.results103, go_sem, *]) rfl ⟨rfl, ?_⟩
    exact (hB3.setCell (Nat.le_succ _) _).setCell (Nat.le_succ _) _
theorem specClimbNew_any (key : Int) (x : Bool) (k y : Int) (sv : Value) (f : Prl) (w : World) (hv : Prs w sv f) :
    Calls Tryz.prog 103 #[.int .i64 key, .agg #[.bool x, .int .i64 k, .int .i64 y, sv]] w fun e w' => IntAns w (clC key x k y f) (clW key x k y f) e w' := by
  rcases Bool.eq_false_or_eq_true (inB key 0 255) with hk | hk
  · by_cases h : tlF x k y f = 0
    · have hc : clC key x k y f = 0 := by rw [clC_in hk, h]
      rw [hc, clW_ok hc]
      exact specClimbNew_rest key x k y sv f w hv hk _ _ (Or.inr ⟨h, rfl, rfl⟩)
    · have hc : clC key x k y f ≠ 0 := by rw [clC_in hk]; exact h
      rw [clW_no hc]
      exact specClimbNew_rest key x k y sv f w hv hk _ _ (Or.inl ⟨clC_in hk, hc, rfl⟩)
  · rw [clW_no (by rw [clC_out hk]; decide), clC_out hk]
    exact specClimbNew_out key x k y sv f w hv hk
end U
end Go.Proofs.YtdbbmclobmigdaaGreat

/- Taking a trail: what the program and the model answer at every argument. -/
namespace Go.Proofs.YtdbbmclobmigdaaGreat
open Go.RowKit
namespace U
/-- Does a trail say that of a key? -/
def sayB (key : Int) (th : Bool) (v : Int) (x : Bool) (k y : Int) : Bool := if th then x && (k == key && y == v) else v == 0 && (!x || k != key)
def acN (key : Int) (th : Bool) (v : Int) (x : Bool) (k y : Int) (f : Prl) (root : Int) : Bool := clC key x k y f == 0 && (clW key x k y f == root && sayB key th v x k y)
set_option maxRecDepth 100000 in
set_option maxHeartbeats 2000000 in
theorem l7Says_any (key : Int) (th : Bool) (v : Int) (p : Nat) (x : Bool) (k y : Int) (sv : Value) (w : World) (H : TlBlk w p x k y sv) :
    Calls Tryz.prog 104 #[.int .i64 key, .bool th, .int .i64 v, .pointer (some ⟨p, 0, none⟩)] w fun e w' => e = .returned (.bool (sayB key th v x k y)) ∧ Below w.heap.size w w' := by
  obtain ⟨c0, c1, c2, c3⟩ := H.cells
  clear H
  unfold sayB
  cases th
  · by_cases hv : v = 0
    · subst hv
      cases x
      · go_enter Tryz.func104, Tryz.ntmps104
        go_wp2
        go_ret
        exact ⟨ret_bool (by simp), Below.refl _ _⟩
      · go_enter Tryz.func104, Tryz.ntmps104
        go_wp2
        go_ret
        exact ⟨ret_bool (by simp), Below.refl _ _⟩
    · have hv1 : (v == 0) = false := by simpa using hv
      clear hv
      go_enter Tryz.func104, Tryz.ntmps104
      go_wp2
      go_ret
      exact ⟨ret_bool (by simp), Below.refl _ _⟩
  · cases x
    · go_enter Tryz.func104, Tryz.ntmps104
      go_wp2
      go_ret
      exact ⟨ret_bool (by simp), Below.refl _ _⟩
    · by_cases hk : k = key
      · subst hk
        have hkk : (k == k) = true := by simp
        go_enter Tryz.func104, Tryz.ntmps104
        go_wp2
        go_ret
        exact ⟨ret_bool (by simp), Below.refl _ _⟩
      · have hk1 : (k == key) = false := by simpa using hk
        clear hk
        go_enter Tryz.func104, Tryz.ntmps104
        go_wp2
        go_ret
        exact ⟨ret_bool (by simp), Below.refl _ _⟩
set_option maxRecDepth 100000 in
set_option maxHeartbeats 4000000 in
theorem implAcceptNew_any (key : Int) (th : Bool) (v : Int) (x : Bool) (k y : Int) (sv : Value) (f : Prl) (root : Int) (w : World) (hv : Prs w sv f) :
    Calls Tryz.prog 114 #[.int .i64 key, .bool th, .int .i64 v, .agg #[.bool x, .int .i64 k, .int .i64 y, sv], .int .i64 root] w fun e w' => e = .returned (.bool (acN key th v x k y f root)) ∧ Below w.heap.size w w' := by
  have hC := fun w' h => implClimbNew_any key x k y sv f w' (hv.below (w' := w') h)
  obtain ⟨ad, c, rfl⟩ := hv.shape
  obtain ⟨W, hW⟩ : ∃ W, W = w.alloc (.cells #[.bool x, .int .i64 k, .int .i64 y, .slice ad f.length c] 48) := ⟨_, rfl⟩
  have HW : Hid (w.alloc (.cells #[.bool x, .int .i64 k, .int .i64 y, .slice ad f.length c] 48) = W) := hW.symm
  have hB : Below w.heap.size w W := by rw [hW]; exact one_new _
  have H : TlBlk W w.heap.size x k y (.slice ad f.length c) := by rw [hW]; exact tl_box w x k y _
  have HH : Hid (∀ w', Below W.heap.size W w' → TlBlk w' w.heap.size x k y (.slice ad f.length c)) := fun w' h => H.below h
  obtain ⟨c0, c1, c2, c3⟩ := H.cells
  unfold acN
  generalize clC key x k y f = q at *
  generalize clW key x k y f = r at *
  generalize f.length = n at *
  clear hW hv H
  by_cases hq : q = 0
  · subst hq
    by_cases hr : r = root
    · subst hr
      unfold sayB
      cases th
      · by_cases hv : v = 0
        · subst hv
          cases x
          · skip
            go_enter Tryz.func114, Tryz.ntmps114
            go_wp2_with fail
            rw [HW.out]
            refine (hC _ hB).mono ?_
            rintro e w1 ⟨rfl, hb1⟩
            have hb1a := hb1.alloc hb1.size (.cells #[.int .i64 0, .int .i64 r] 58)
            obtain ⟨e0, e1, e2, e3⟩ := (HH.out _ hb1a).cells
            have hB1 := below_after_of hB hb1a
            clear hC hb1 c0 c1 c2 c3
            go_wp2
            go_ret
            exact ⟨ret_bool (by simp), hB1⟩
          · skip
            go_enter Tryz.func114, Tryz.ntmps114
            go_wp2_with fail
            rw [HW.out]
            refine (hC _ hB).mono ?_
            rintro e w1 ⟨rfl, hb1⟩
            have hb1a := hb1.alloc hb1.size (.cells #[.int .i64 0, .int .i64 r] 58)
            obtain ⟨e0, e1, e2, e3⟩ := (HH.out _ hb1a).cells
            have hB1 := below_after_of hB hb1a
            clear hC hb1 c0 c1 c2 c3
            go_wp2
            go_ret
            exact ⟨ret_bool (by simp), hB1⟩
        · skip
          have hv1 : (v == 0) = false := by simpa using hv
          clear hv
          go_enter Tryz.func114, Tryz.ntmps114
          go_wp2_with fail
          rw [HW.out]
          refine (hC _ hB).mono ?_
          rintro e w1 ⟨rfl, hb1⟩
          have hb1a := hb1.alloc hb1.size (.cells #[.int .i64 0, .int .i64 r] 58)
          obtain ⟨e0, e1, e2, e3⟩ := (HH.out _ hb1a).cells
          have hB1 := below_after_of hB hb1a
          clear hC hb1 c0 c1 c2 c3
          go_wp2
          go_ret
          exact ⟨ret_bool (by simp), hB1⟩
      · cases x
        · skip
          go_enter Tryz.func114, Tryz.ntmps114
          go_wp2_with fail
          rw [HW.out]
          refine (hC _ hB).mono ?_
          rintro e w1 ⟨rfl, hb1⟩
          have hb1a := hb1.alloc hb1.size (.cells #[.int .i64 0, .int .i64 r] 58)
          obtain ⟨e0, e1, e2, e3⟩ := (HH.out _ hb1a).cells
          have hB1 := below_after_of hB hb1a
          clear hC hb1 c0 c1 c2 c3
          go_wp2
          go_ret
          exact ⟨ret_bool (by simp), hB1⟩
        · by_cases hk : k = key
          · subst hk
            have hkk : (k == k) = true := by simp
            by_cases hy : y = v
            · subst hy
              have hyy : (y == y) = true := by simp
              go_enter Tryz.func114, Tryz.ntmps114
              go_wp2_with fail
              rw [HW.out]
              refine (hC _ hB).mono ?_
              rintro e w1 ⟨rfl, hb1⟩
              have hb1a := hb1.alloc hb1.size (.cells #[.int .i64 0, .int .i64 r] 58)
              obtain ⟨e0, e1, e2, e3⟩ := (HH.out _ hb1a).cells
              have hB1 := below_after_of hB hb1a
              clear hC hb1 c0 c1 c2 c3
              go_wp2
              go_ret
              exact ⟨ret_bool (by simp), hB1⟩
            · skip
              have hy1 : (y == v) = false := by simpa using hy
              clear hy
              go_enter Tryz.func114, Tryz.ntmps114
              go_wp2_with fail
              rw [HW.out]
              refine (hC _ hB).mono ?_
              rintro e w1 ⟨rfl, hb1⟩
              have hb1a := hb1.alloc hb1.size (.cells #[.int .i64 0, .int .i64 r] 58)
              obtain ⟨e0, e1, e2, e3⟩ := (HH.out _ hb1a).cells
              have hB1 := below_after_of hB hb1a
              clear hC hb1 c0 c1 c2 c3
              go_wp2
              go_ret
              exact ⟨ret_bool (by simp), hB1⟩
          · skip
            have hk1 : (k == key) = false := by simpa using hk
            clear hk
            go_enter Tryz.func114, Tryz.ntmps114
            go_wp2_with fail
            rw [HW.out]
            refine (hC _ hB).mono ?_
            rintro e w1 ⟨rfl, hb1⟩
            have hb1a := hb1.alloc hb1.size (.cells #[.int .i64 0, .int .i64 r] 58)
            obtain ⟨e0, e1, e2, e3⟩ := (HH.out _ hb1a).cells
            have hB1 := below_after_of hB hb1a
            clear hC hb1 c0 c1 c2 c3
            go_wp2
            go_ret
            exact ⟨ret_bool (by simp), hB1⟩
    · skip
      have hr1 : (r != root) = true := by simpa using hr
      have hr2 : (r == root) = false := by simpa using hr
      clear hr
      go_enter Tryz.func114, Tryz.ntmps114
      go_wp2_with fail
      rw [HW.out]
      refine (hC _ hB).mono ?_
      rintro e w1 ⟨rfl, hb1⟩
      have hb1a := hb1.alloc hb1.size (.cells #[.int .i64 0, .int .i64 r] 58)
      obtain ⟨e0, e1, e2, e3⟩ := (HH.out _ hb1a).cells
      have hB1 := below_after_of hB hb1a
      clear hC hb1 c0 c1 c2 c3
      go_wp2
      go_ret
      exact ⟨ret_bool (by simp [hr2]), hB1⟩
  · skip
    have hq1 : (q != 0) = true := by simpa using hq
    have hq2 : (q == 0) = false := by simpa using hq
    clear hq
    go_enter Tryz.func114, Tryz.ntmps114
    go_wp2_with fail
    rw [HW.out]
    refine (hC _ hB).mono ?_
    rintro e w1 ⟨rfl, hb1⟩
    have hb1a := hb1.alloc hb1.size (.cells #[.int .i64 q, .int .i64 r] 58)
    obtain ⟨e0, e1, e2, e3⟩ := (HH.out _ hb1a).cells
    have hB1 := below_after_of hB hb1a
    clear hC hb1 c0 c1 c2 c3
    go_wp2
    go_ret
    exact ⟨ret_bool (by simp [hq2]), hB1⟩
set_option maxRecDepth 100000 in
set_option maxHeartbeats 4000000 in
theorem specAcceptNew_any (key : Int) (th : Bool) (v : Int) (x : Bool) (k y : Int) (sv : Value) (f : Prl) (root : Int) (w : World) (hv : Prs w sv f) :
    Calls Tryz.prog 72 #[.int .i64 key, .bool th, .int .i64 v, .agg #[.bool x, .int .i64 k, .int .i64 y, sv], .int .i64 root] w fun e w' => e = .returned (.bool (acN key th v x k y f root)) ∧ Below w.heap.size w w' := by
  have hC := fun w' h => specClimbNew_any key x k y sv f w' (hv.below (w' := w') h)
  obtain ⟨ad, c, rfl⟩ := hv.shape
  obtain ⟨W, hW⟩ : ∃ W, W = w.alloc (.cells #[.bool x, .int .i64 k, .int .i64 y, .slice ad f.length c] 48) := ⟨_, rfl⟩
  have HW : Hid (w.alloc (.cells #[.bool x, .int .i64 k, .int .i64 y, .slice ad f.length c] 48) = W) := hW.symm
  have hB : Below w.heap.size w W := by rw [hW]; exact one_new _
  have H : TlBlk W w.heap.size x k y (.slice ad f.length c) := by rw [hW]; exact tl_box w x k y _
  have HH : Hid (∀ w', Below W.heap.size W w' → TlBlk w' w.heap.size x k y (.slice ad f.length c)) := fun w' h => H.below h
  obtain ⟨c0, c1, c2, c3⟩ := H.cells
  unfold acN
  generalize clC key x k y f = q at *
  generalize clW key x k y f = r at *
  generalize f.length = n at *
  clear hW hv H
  have hS := fun w' h => l7Says_any key th v w.heap.size x k y _ w' (HH.out w' h)
  generalize sayB key th v x k y = z at *
  by_cases hq : q = 0
  · subst hq
    by_cases hr : r = root
    · subst hr
      have hrr : (r == r) = true := by simp
      go_enter Tryz.func72, Tryz.ntmps72
      go_wp2_with fail
      rw [HW.out]
      refine (hC _ hB).mono ?_
      rintro e w1 ⟨rfl, hb1⟩
      have hb1a := hb1.alloc hb1.size (.cells #[.int .i64 0, .int .i64 r] 58)
      obtain ⟨e0, e1, e2, e3⟩ := (HH.out _ hb1a).cells
      have hB1 := below_after_of hB hb1a
      clear hC hb1 c0 c1 c2 c3
      go_wp2_with fail
      refine (hS _ hb1a).mono ?_
      rintro e w2 ⟨rfl, hb2⟩
      have hB2 := below_after_of hB1 hb2
      clear hS hb2
      go_wp2
      go_ret
      exact ⟨ret_bool (by simp), hB2⟩
    · skip
      have hr1 : (r == root) = false := by simpa using hr
      clear hr
      go_enter Tryz.func72, Tryz.ntmps72
      go_wp2_with fail
      rw [HW.out]
      refine (hC _ hB).mono ?_
      rintro e w1 ⟨rfl, hb1⟩
      have hb1a := hb1.alloc hb1.size (.cells #[.int .i64 0, .int .i64 r] 58)
      obtain ⟨e0, e1, e2, e3⟩ := (HH.out _ hb1a).cells
      have hB1 := below_after_of hB hb1a
      clear hC hb1 c0 c1 c2 c3
      go_wp2
      go_ret
      exact ⟨ret_bool (by simp [hr1]), hB1⟩
  · skip
    have hq1 : (q == 0) = false := by simpa using hq
    clear hq
    go_enter Tryz.func72, Tryz.ntmps72
    go_wp2_with fail
    rw [HW.out]
    refine (hC _ hB).mono ?_
    rintro e w1 ⟨rfl, hb1⟩
    have hb1a := hb1.alloc hb1.size (.cells #[.int .i64 q, .int .i64 r] 58)
    obtain ⟨e0, e1, e2, e3⟩ := (HH.out _ hb1a).cells
    have hB1 := below_after_of hB hb1a
    clear hC hb1 c0 c1 c2 c3
    go_wp2
    go_ret
    exact ⟨ret_bool (by simp [hq1]), hB1⟩
end U
end Go.Proofs.YtdbbmclobmigdaaGreat
