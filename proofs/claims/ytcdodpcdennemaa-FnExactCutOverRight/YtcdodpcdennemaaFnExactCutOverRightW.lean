/- The law on CutOverRight, walked: true, and nothing that was there has turned. -/
import Derived.Test.YtcdodpcdennemaaHdT
import Derived.Test.YtcdodpcdennemaaCr1
namespace Go.Proofs.Ytcdodpcdennemaa
open Go.RowKit
namespace U
set_option maxRecDepth 100000 in
set_option maxHeartbeats 2000000 in
theorem fnExactCutOverRight_walk (v : Value) (l : Hdl) (t : Int) (w : World) (hv : Hds w v l) (hl : l.length ≤ maxLen) :
    Calls Try.prog 9 #[v, .int .i64 t] w fun e w' => e = .returned (.bool true) ∧ Below w.heap.size w w' := by
  obtain ⟨a, c, rfl⟩ := hv.shape
  have hZ := fun w => szHeadS_any a l.length c w hl
  by_cases h : l.length ≤ 1048576
  · rw [if_pos h] at hZ
    have h2 : ¬ ((1048576 - l.length : Int) < 0) := by omega
    have hT := fun w' hb => toHeadS_any _ l w' (hv.below (w' := w') hb) h
    have hS := fun u w' hu => specCutOverRight_any u l t w' hu (by omega)
    have hI := fun u w' hu => implCutOverRight_any u l t w' hu (by omega)
    have hE := fun u v w' hu hv => eqHeadS_same u v l w' hu hv h
    generalize (1048576 - l.length : Int) = z at *
    generalize crB l t = q at *
    have hnn : (q != q) = false := by cases q <;> rfl
    obtain ⟨n, hn⟩ : ∃ n, n = l.length := ⟨_, rfl⟩
    have HN : Hid (n = l.length) := hn
    rw [← hn] at hZ hT hl h ⊢
    clear hn hv
    go_enter Try.func9, Try.ntmps9
    go_wp2_with fail
    refine (hZ _).mono ?_
    rintro e w1 ⟨rfl, rfl⟩
    clear hZ
    go_wp2_with fail
    refine (hT _ (Below.refl _ _)).mono ?_
    rintro e w2 ⟨a2, c2, rfl, hb2, o2⟩
    have r2 := own_hds' HN.out o2
    clear o2
    go_wp2_with fail
    refine (hS _ _ r2).mono ?_
    rintro e w3 ⟨rfl, hb3⟩
    have hB3 := below_after_of hb2 hb3
    clear hb2 hb3 r2 hS
    go_wp2_with fail
    refine (hT _ hB3).mono ?_
    rintro e w4 ⟨a4, c4, rfl, hb4, o4⟩
    have r4 := own_hds' HN.out o4
    have hB4 := below_after_of hB3 hb4
    clear hb4 hB3 o4
    go_wp2_with fail
    refine (hI _ _ r4).mono ?_
    rintro e w5 ⟨rfl, hb5⟩
    have hB5 := below_after_of hB4 hb5
    have r5 := r4.below hb5
    clear hI hb5 r4 hB4
    go_wp2_with fail
    refine (hT _ hB5).mono ?_
    rintro e w6 ⟨a6, c6, rfl, hb6, o6⟩
    have r6 := own_hds' HN.out o6
    have r56 := r5.below hb6
    have hB6 := below_after_of hB5 hb6
    clear hb6 o6 r5 hB5
    go_wp2_with fail
    refine (hE _ _ _ r56 r6).mono ?_
    rintro e w7 ⟨rfl, hb7⟩
    have hB7 := below_after_of hB6 hb7
    go_wp2
    go_ret
    exact ⟨rfl, hB7⟩
  · rw [if_neg h] at hZ
    generalize l.length = n at *
    clear hv
    go_enter Try.func9, Try.ntmps9
    go_wp2_with fail
    refine (hZ _).mono ?_
    rintro e w1 ⟨rfl, rfl⟩
    go_wp2
    go_ret
    exact ⟨rfl, Below.refl _ _⟩
end U
end Go.Proofs.Ytcdodpcdennemaa
