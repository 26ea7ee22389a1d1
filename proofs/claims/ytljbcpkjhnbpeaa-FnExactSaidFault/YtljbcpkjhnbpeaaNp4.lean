/- The fault of a trail, as the model finds it. -/
import Derived.Test.YtljbcpkjhnbpeaaNpA
import Derived.Test.YtljbcpkjhnbpeaaSl1
import Derived.Test.YtljbcpkjhnbpeaaQuiet
namespace Go.Proofs.Ytljbcpkjhnbpeaa
open Go.RowKit
namespace U
/-- The value of a trail. -/
def tlV (x : Bool) (k y : Int) (sv : Value) : Value := .agg #[.bool x, .int .i64 k, .int .i64 y, sv]
/-- A block that holds a trail. -/
def TlBlk (w : World) (p : Nat) (x : Bool) (k y : Int) (sv : Value) : Prop := w.heap[p]? = some (.cells #[.bool x, .int .i64 k, .int .i64 y, sv] 31)
theorem TlBlk.cells {w : World} {p : Nat} {x : Bool} {k y : Int} {sv : Value} (h : TlBlk w p x k y sv) : w.cell? ⟨p, 0, none⟩ = some (.bool x) ∧ w.cell? ⟨p, 1, none⟩ = some (.int .i64 k) ∧ w.cell? ⟨p, 2, none⟩ = some (.int .i64 y) ∧ w.cell? ⟨p, 3, none⟩ = some sv := by
  unfold TlBlk at h
  refine ⟨?_, ?_, ?_, ?_⟩
  · unfold World.cell?; rw [h]; rfl
  · unfold World.cell?; rw [h]; rfl
  · unfold World.cell?; rw [h]; rfl
  · unfold World.cell?; rw [h]; rfl
theorem TlBlk.lt {w : World} {p : Nat} {x : Bool} {k y : Int} {sv : Value} (h : TlBlk w p x k y sv) : p < w.heap.size := (Array.getElem?_eq_some_iff.1 h).1
theorem TlBlk.below {w w' : World} {p : Nat} {x : Bool} {k y : Int} {sv : Value} (h : TlBlk w p x k y sv) (hb : Below w.heap.size w w') : TlBlk w' p x k y sv := (hb.block p h.lt).trans h
theorem tl_box (w : World) (x : Bool) (k y : Int) (sv : Value) : TlBlk (w.alloc (.cells #[.bool x, .int .i64 k, .int .i64 y, sv] 31)) w.heap.size x k y sv := heap_alloc_new w _
set_option maxRecDepth 100000 in
set_option maxHeartbeats 2000000 in
theorem l7Fault_loop (p : Nat) (x : Bool) (k y : Int) (ad : Option Addr) (n c : Nat) (f : Prl) (w : World) (H : TlBlk w p x k y (.slice ad n c)) (hv : Prs w (.slice ad n c) f) (HN : Hid (n = f.length)) (hn : n ≤ 8)
    (h1 : x = true ∨ (x = false ∧ k = 0 ∧ y = 0 ∧ n = 0)) (hk : inB k 0 255 = true) (hy : sumB y = true) :
    Calls Try.prog 51 #[.pointer (some ⟨p, 0, none⟩)] w fun e w' => e = .returned (.int .i64 (fkF f)) ∧ Below w.heap.size w w' := by
  have hK := fun w => l4Key_any k w
  have hS := fun w => l2Is4 y w
  rw [hk] at hK
  rw [hy] at hS
  obtain ⟨c0, c1, c2, c3⟩ := H.cells
  have HH : Hid (TlBlk w p x k y (.slice ad n c)) := H
  have hp := H.lt
  have hn8 : ¬ ((8 : Int) < (n : Int)) := by omega
  have HV : Hid (0 < n → ∃ b off, ad = some ⟨b, off, none⟩ ∧ b < w.heap.size ∧ ∀ j, j < n → w.cell? ⟨b, off + j * 2, none⟩ = some (.int .i64 (pAt f j).1) ∧ w.cell? ⟨b, off + j * 2 + 1, none⟩ = some (.int .i64 (pAt f j).2)) := (fun h0 => by
    have hl := HN.out
    obtain ⟨-, b, off, e, hb, hc⟩ := hv.at (by omega)
    exact ⟨b, off, e, hb, fun j hj => hc j (by omega)⟩ : 0 < n → _)
  clear H hv hk hy
  rcases h1 with rfl | ⟨rfl, rfl, rfl, rfl⟩
  · go_enter Try.func51, Try.ntmps51
    go_wp2_with fail
    refine (hK _).mono ?_
    rintro e w1 ⟨rfl, rfl⟩
    clear hK
    go_wp2_with fail
    refine (hS _).mono ?_
    rintro e w2 ⟨rfl, rfl⟩
    clear hS
    go_wp2
    go_loopw [3] (fun i wr => ∃ j : Nat, j ≤ n ∧ i = .int .i64 (j : Int) ∧ Hid (fkS f j = 0) ∧ Hid (Below w2.heap.size w2 wr)) (fun i _ => n - (intOf i).toNat)
    case atStart => exact ⟨0, Nat.zero_le _, rfl, rfl, Below.refl _ _⟩
    case round =>
      obtain ⟨j, hj, rfl, hF, hB⟩ := hrel
      have d3 := (hB.out.cell (p := ⟨p, 3, none⟩) hp).trans c3
      by_cases hjn : j < n
      · have hji : (j : Int) < (n : Int) := by omega
        obtain ⟨b, off, rfl, hb, hc⟩ := HV.out (by omega)
        have q0 := (hB.out.cell (p := ⟨b, off + j * 2, none⟩) hb).trans (hc j hjn).1
        have q1 := (hB.out.cell (p := ⟨b, off + j * 2 + 1, none⟩) hb).trans (hc j hjn).2
        have hI := fun w => l1In_any (pAt f j).1 0 7 w
        have hT := fun w => l2Is4 (pAt f j).2 w
        have HFK : Hid (fkB (pAt f j) = (inB (pAt f j).1 0 7 && sumB (pAt f j).2)) := rfl
        have HLF : Hid (j + 1 ≤ f.length) := (by have := HN.out; omega : j + 1 ≤ f.length)
        have HPV : Hid (∀ i, j = i + 1 → ahd f j = (pAt f i).1 ∧ wr.cell? ⟨b, off + i * 2, none⟩ = some (.int .i64 (pAt f i).1)) := (fun i e => ⟨by rw [e]; exact ahd_succ f i, (hB.out.cell (p := ⟨b, off + i * 2, none⟩) hb).trans (hc i (by omega)).1⟩ : ∀ i, j = i + 1 → _)
        clear hc HV
        obtain ⟨u, hu⟩ : ∃ u, u = inB (pAt f j).1 0 7 := ⟨_, rfl⟩
        obtain ⟨z, hz⟩ : ∃ z, z = sumB (pAt f j).2 := ⟨_, rfl⟩
        have HU : Hid (inB (pAt f j).1 0 7 = u) := hu.symm
        rw [← hu] at hI HFK
        rw [← hz] at hT HFK
        clear hu hz
        have HP : Hid (pAt f j = ((pAt f j).1, (pAt f j).2)) := rfl
        generalize (pAt f j).1 = fb at *
        generalize (pAt f j).2 = fo at *
        cases u
        · have HR : Hid (fkF f = 3) := fkF_stop hF.out HLF.out (fk1_no HFK.out) (by decide)
          clear HFK HLF hF HPV HP
          go_wp2_with fail
          refine (hI _).mono ?_
          rintro e w3 ⟨rfl, rfl⟩
          clear hI hT
          go_wp2
          go_ret
          exact ⟨ret_int HR.out.symm, hB.out⟩
        · cases z
          · have HR : Hid (fkF f = 3) := fkF_stop hF.out HLF.out (fk1_no HFK.out) (by decide)
            clear HFK HLF hF HPV HP
            go_wp2_with fail
            refine (hI _).mono ?_
            rintro e w3 ⟨rfl, rfl⟩
            clear hI
            go_wp2_with fail
            refine (hT _).mono ?_
            rintro e w3 ⟨rfl, rfl⟩
            clear hT
            go_wp2
            go_ret
            exact ⟨ret_int HR.out.symm, hB.out⟩
          · have hne := After.ne wr
            have a3 := After.cell d3
            have a0 := After.cell q0
            rcases j with _ | i
            · have hz0 : decide (0 < ((0 : Nat) : Int)) = false := by decide
              simp only [Nat.zero_mul, Nat.add_zero] at q0 q1 a0
              have HR : Hid (fkS f (0 + 1) = 0) := ((fkS_next hF.out).trans (fk1_ok HFK.out (by rw [HP.out, ahd_zero]; have := inB_bd HU.out; omega)) : fkS f (0 + 1) = 0)
              clear HFK HLF hF HPV HP HU
              go_wp2_with fail
              refine (hI _).mono ?_
              rintro e w3 ⟨rfl, rfl⟩
              clear hI
              go_wp2_with fail
              refine (hT _).mono ?_
              rintro e w3 ⟨rfl, rfl⟩
              clear hT
              go_wp2
              refine wp_region_after (by kernel_rfl) (by kernel_rfl) ?_
              repeat (first | go_big_quiet_skip | (go_big_quiet_want; go_big_quiet_op; first | go_big_quiet_on))
              refine wpQuiet_nil ?_
              rintro _ ⟨n2, rfl⟩
              have hB2 : Hid (Below w2.heap.size w2 n2.w) := below_after_of hB.out n2.b
              go_wp2
              go_roundw
              case rel => exact ⟨0 + 1, by omega, by go_num, HR, hB2⟩
              case measure => simp [intOf]; omega
            · obtain ⟨ea, qi⟩ := HPV.out i rfl
              have ai := After.cell qi
              have hz0 : decide (0 < ((i + 1 : Nat) : Int)) = true := by rw [decide_eq_true_iff]; omega
              have hi1 : ((i + 1 : Nat) : Int) - 1 = (i : Int) := by omega
              have HEA : Hid (ahd f (i + 1) = (pAt f i).1) := ea
              generalize (pAt f i).1 = fp at *
              by_cases hle : fb ≤ fp
              · have hd : decide (fb ≤ fp) = true := by simpa using hle
                have HR : Hid (fkF f = 1) := fkF_stop hF.out HLF.out (fk1_low HFK.out (by rw [HP.out, HEA.out]; exact hle)) (by decide)
                clear HFK HLF hF HPV HP HU ea HEA hle
                go_wp2_with fail
                refine (hI _).mono ?_
                rintro e w3 ⟨rfl, rfl⟩
                clear hI
                go_wp2_with fail
                refine (hT _).mono ?_
                rintro e w3 ⟨rfl, rfl⟩
                clear hT
                go_wp2
                refine wp_region_after (by kernel_rfl) (by kernel_rfl) ?_
                repeat (first | go_big_quiet_skip | (go_big_quiet_want; go_big_quiet_op; first | go_big_quiet_on))
                refine wpQuiet_nil ?_
                rintro _ ⟨n2, rfl⟩
                have hB2 : Hid (Below w2.heap.size w2 n2.w) := below_after_of hB.out n2.b
                go_wp2
                go_ret
                exact ⟨ret_int HR.out.symm, hB2.out⟩
              · have hd : decide (fb ≤ fp) = false := by simpa using hle
                have HR : Hid (fkS f (i + 1 + 1) = 0) := ((fkS_next hF.out).trans (fk1_ok HFK.out (by rw [HP.out, HEA.out]; exact hle)) : fkS f (i + 1 + 1) = 0)
                clear HFK HLF hF HPV HP HU ea HEA hle
                go_wp2_with fail
                refine (hI _).mono ?_
                rintro e w3 ⟨rfl, rfl⟩
                clear hI
                go_wp2_with fail
                refine (hT _).mono ?_
                rintro e w3 ⟨rfl, rfl⟩
                clear hT
                go_wp2
                refine wp_region_after (by kernel_rfl) (by kernel_rfl) ?_
                repeat (first | go_big_quiet_skip | (go_big_quiet_want; go_big_quiet_op; first | go_big_quiet_on))
                refine wpQuiet_nil ?_
                rintro _ ⟨n2, rfl⟩
                have hB2 : Hid (Below w2.heap.size w2 n2.w) := below_after_of hB.out n2.b
                go_wp2
                go_roundw
                case rel => exact ⟨i + 1 + 1, by omega, by go_num, HR, hB2⟩
                case measure => simp [intOf]; omega
      · have hjn : j = n := by omega
        subst hjn
        have HR : Hid (fkF f = 0) := (by unfold fkF; rw [← HN.out]; exact hF.out : fkF f = 0)
        go_wp2
        go_ret
        exact ⟨ret_int HR.out.symm, hB.out⟩
  · have HF0 : Hid (fkF f = 0) := (by have := HN.out; unfold fkF; rw [← this]; rfl : fkF f = 0)
    have hk00 : inB 0 0 255 = true := rfl
    clear HV HN
    go_enter Try.func51, Try.ntmps51
    go_wp2_with fail
    refine (hK _).mono ?_
    rintro e w1 ⟨rfl, rfl⟩
    clear hK
    go_wp2_with fail
    refine (hS _).mono ?_
    rintro e w2 ⟨rfl, rfl⟩
    clear hS
    go_wp2
    refine wp_loop_rounds 1 ?_; rw [rounds_succ]
    go_wp2
    go_ret
    exact ⟨ret_int HF0.out.symm, Below.refl _ _⟩
end U
end Go.Proofs.Ytljbcpkjhnbpeaa
