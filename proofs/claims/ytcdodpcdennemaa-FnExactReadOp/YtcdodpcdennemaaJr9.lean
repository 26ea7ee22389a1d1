/- Operations out of bytes: what the program reads. -/
import Derived.Deep.Cut
import Derived.Test.YtcdodpcdennemaaJrH
import Derived.Test.YtcdodpcdennemaaJr7
import Derived.Test.YtcdodpcdennemaaRdo5
import Derived.Test.YtcdodpcdennemaaStr
namespace Go.Proofs.Ytcdodpcdennemaa
open Go.RowKit
namespace U
set_option maxRecDepth 100000 in
set_option maxHeartbeats 2000000 in
theorem opOfBytes_short (b off c : Nat) (bs : List Int) (w : World) (hv : OffB w (.slice (some ⟨b, off, none⟩) bs.length c) bs) (hB : Bts bs) (hx : bs.length ≤ 1048576) (h0 : 0 < bs.length) (h3 : bs.length < 3) :
    Calls Try.prog 54 #[.slice (some ⟨b, off, none⟩) bs.length c] w fun e w' => e = .returned (opnV (rdOpn bs)) ∧ Below w.heap.size w w' := by
  obtain ⟨-, b', off', e, hb, hc⟩ := hv.ints.at (by omega)
  cases e
  have q0 := ((one_new (.cells #[.int .i64 0, .string ⟨#[]⟩, .int .i64 0, .int .i64 0, .int .i64 0, .int .i64 0, .int .i64 0] 33)).cell (p := ⟨b, off + 0, none⟩) hb).trans (hc 0 (by omega))
  rw [Nat.add_zero] at q0
  rw [rdOpn_short h3]
  have h3i : ((bs.length : Nat) : Int) < 3 := by omega
  have h0i : ¬ ((bs.length : Nat) : Int) = 0 := by omega
  have hkb := hB.at (k := 0) (by omega)
  have hkw : IntKind.i64.wrap (bs.getD 0 0) = bs.getD 0 0 := by rw [IntKind.wrap_i64]; omega
  generalize bs.getD 0 0 = k at *
  generalize bs.length = n at *
  clear hv hB hc hx
  go_enter Try.func54, Try.ntmps54
  go_wp2
  exact bodyPost_ret (v := .agg #[.int .i64 k, .string ⟨#[]⟩, .int .i64 0, .int .i64 0, .int .i64 0, .int .i64 0, .int .i64 0]) (by simp [results, Try.results54, go_sem]) rfl ⟨rfl, two_new _ _⟩
set_option maxRecDepth 100000 in
set_option maxHeartbeats 2000000 in
theorem opOfBytes_one (b off c : Nat) (bs : List Int) (w : World) (hv : OffB w (.slice (some ⟨b, off, none⟩) bs.length c) bs) (hB : Bts bs) (hx : bs.length ≤ 1048576) (h3 : 3 ≤ bs.length) (h1 : ¬ bs.getD 0 0 = 1) (hk : ¬ bs.getD 0 0 = 3) :
    Calls Try.prog 54 #[.slice (some ⟨b, off, none⟩) bs.length c] w fun e w' => e = .returned (opnV (rdOpn bs)) ∧ Below w.heap.size w w' := by
  obtain ⟨-, b', off', e, hb, hc⟩ := hv.ints.at (by omega)
  cases e
  have q0 := ((one_new (.cells #[.int .i64 0, .string ⟨#[]⟩, .int .i64 0, .int .i64 0, .int .i64 0, .int .i64 0, .int .i64 0] 33)).cell (p := ⟨b, off + 0, none⟩) hb).trans (hc 0 (by omega))
  rw [Nat.add_zero] at q0
  rw [rdOpn_one h1 hk]
  have h3i : ¬ ((bs.length : Nat) : Int) < 3 := by omega
  have h0i : ¬ ((bs.length : Nat) : Int) = 0 := by omega
  have hkb := hB.at (k := 0) (by omega)
  have hkw : IntKind.i64.wrap (bs.getD 0 0) = bs.getD 0 0 := by rw [IntKind.wrap_i64]; omega
  generalize bs.getD 0 0 = k at *
  generalize bs.length = n at *
  clear hv hB hc hx
  go_enter Try.func54, Try.ntmps54
  go_wp2
  exact bodyPost_ret (v := .agg #[.int .i64 k, .string ⟨#[]⟩, .int .i64 0, .int .i64 0, .int .i64 0, .int .i64 0, .int .i64 0]) (by simp [results, Try.results54, go_sem]) rfl ⟨rfl, two_new _ _⟩
set_option maxRecDepth 100000 in
set_option maxHeartbeats 2000000 in
theorem opOfBytes_cp (b off c : Nat) (bs : List Int) (w : World) (hv : OffB w (.slice (some ⟨b, off, none⟩) bs.length c) bs) (hB : Bts bs) (hx : bs.length ≤ 1048576) (h3 : 3 ≤ bs.length) (hk : bs.getD 0 0 = 3) :
    Calls Try.prog 54 #[.slice (some ⟨b, off, none⟩) bs.length c] w fun e w' => e = .returned (opnV (rdOpn bs)) ∧ Below w.heap.size w w' := by
  obtain ⟨-, b', off', e, hb, hc⟩ := hv.ints.at (by omega)
  cases e
  obtain ⟨n, hn⟩ : ∃ n, n = bs.length := ⟨_, rfl⟩
  have HN : Hid (n = bs.length) := hn
  obtain ⟨W, hW⟩ : ∃ W, W = ((w.alloc (.cells #[.int .i64 0, .string ⟨#[]⟩, .int .i64 0, .int .i64 0, .int .i64 0, .int .i64 0, .int .i64 0] 33)).alloc (.cells #[.int .i64 3, .string ⟨#[]⟩, .int .i64 0, .int .i64 0, .int .i64 0, .int .i64 0, .int .i64 0] 33)) := ⟨_, rfl⟩
  have hBW : Below w.heap.size w W := by rw [hW]; exact two_new _ _
  have hR : W.heap[w.heap.size]? = some (.cells #[.int .i64 0, .string ⟨#[]⟩, .int .i64 0, .int .i64 0, .int .i64 0, .int .i64 0, .int .i64 0] 33) := by rw [hW]; exact heap_alloc_old' _ _ _ (heap_alloc_new w _)
  have hX : W.heap[w.heap.size + 1]? = some (.cells #[.int .i64 3, .string ⟨#[]⟩, .int .i64 0, .int .i64 0, .int .i64 0, .int .i64 0, .int .i64 0] 33) := by rw [hW]; exact heap_new2 w _ _
  have q0 := ((one_new (.cells #[.int .i64 0, .string ⟨#[]⟩, .int .i64 0, .int .i64 0, .int .i64 0, .int .i64 0, .int .i64 0] 33)).cell (p := ⟨b, off + 0, none⟩) hb).trans (hc 0 (by omega))
  rw [Nat.add_zero] at q0
  rw [hk] at q0
  have hNm := fun w' (hbq : Below W.heap.size W w') => numberAt_any b off c n 1 (bs.getD 1 0) (bs.getD 2 0) w' (by omega) (by omega) ((hbq.cell (p := ⟨b, off + 1, none⟩) (Nat.lt_of_lt_of_le hb hBW.size)).trans ((hBW.cell (p := ⟨b, off + 1, none⟩) hb).trans (hc 1 (by omega)))) ((hbq.cell (p := ⟨b, off + 2, none⟩) (Nat.lt_of_lt_of_le hb hBW.size)).trans ((hBW.cell (p := ⟨b, off + 2, none⟩) hb).trans (hc 2 (by omega)))) (hB.at (by omega)) (hB.at (by omega))
  have eN : 256 * bs.getD 1 0 + bs.getD 2 0 = rdN bs 1 := rfl
  rw [eN] at hNm
  rw [rdOpn_cp (by omega) hk]
  rw [← hn] at h3 ⊢
  have h3i : ¬ ((n : Nat) : Int) < 3 := by omega
  have h0i : ¬ ((n : Nat) : Int) = 0 := by omega
  generalize rdN bs 1 = nm at *
  have HW : Hid (((w.alloc (.cells #[.int .i64 0, .string ⟨#[]⟩, .int .i64 0, .int .i64 0, .int .i64 0, .int .i64 0, .int .i64 0] 33)).alloc (.cells #[.int .i64 3, .string ⟨#[]⟩, .int .i64 0, .int .i64 0, .int .i64 0, .int .i64 0, .int .i64 0] 33)) = W) := hW.symm
  have HBW : Hid (Below w.heap.size w W) := hBW
  have HR : Hid (W.heap[w.heap.size]? = some (.cells #[.int .i64 0, .string ⟨#[]⟩, .int .i64 0, .int .i64 0, .int .i64 0, .int .i64 0, .int .i64 0] 33)) := hR
  have HX : Hid (W.heap[w.heap.size + 1]? = some (.cells #[.int .i64 3, .string ⟨#[]⟩, .int .i64 0, .int .i64 0, .int .i64 0, .int .i64 0, .int .i64 0] 33)) := hX
  have HL : Hid (w.heap.size + 1 < W.heap.size) := (Array.getElem?_eq_some_iff.1 hX).1
  clear hv hB hc hx hn hW hBW hR hX eN hk
  go_enter Try.func54, Try.ntmps54
  go_wp2_with fail
  rw [HW.out]
  refine (hNm _ (Below.refl _ _)).mono ?_
  rintro e w1 ⟨rfl, nd, hd1⟩
  have hb1 : Below W.heap.size W w1 := by rw [hd1]; exact below_drewN (Below.refl _ _) nd
  clear hd1 hNm HW q0
  have hx1 := (hb1.block _ HL.out).trans HX.out
  have hr1 := (hb1.block w.heap.size (by have := HL.out; omega)).trans HR.out
  obtain ⟨⟨y0, y1, y2, y3, y4, y5, y6⟩, g0, g1, g2, g3, g4, g5, g6⟩ := seven_cellsO hx1
  obtain ⟨W2, hW2⟩ : ∃ W2, W2 = w1.setCell ⟨w.heap.size + 1, 6, none⟩ (.int .i64 nm) := ⟨_, rfl⟩
  have hx2 := put_six7 hx1 (.int .i64 nm)
  rw [← hW2] at hx2
  have hr2 : W2.heap[w.heap.size]? = some (.cells #[.int .i64 0, .string ⟨#[]⟩, .int .i64 0, .int .i64 0, .int .i64 0, .int .i64 0, .int .i64 0] 33) := by rw [hW2]; exact (heap_setCell_other w1 ⟨w.heap.size + 1, 6, none⟩ _ _ (by show w.heap.size ≠ w.heap.size + 1; omega)).trans hr1
  have HB2 : Hid (Below w.heap.size w W2) := (by rw [hW2]; exact (below_after_of HBW.out hb1).setCell (Nat.le_succ _) _ : Below w.heap.size w W2)
  have HW2 : Hid (w1.setCell ⟨w.heap.size + 1, 6, none⟩ (.int .i64 nm) = W2) := hW2.symm
  obtain ⟨⟨z0, z1, z2, z3, z4, z5, z6⟩, -⟩ := seven_cellsO hx2
  obtain ⟨⟨r0, r1, r2, r3, r4, r5, r6⟩, f0, f1, f2, f3, f4, f5, f6⟩ := seven_cellsO hr2
  clear hW2 hx2 hr2 hx1 hr1 hb1
  go_upto_region 12 with fail
  rw [HW2.out]
  clear HW2 y0 y1 y2 y3 y4 y5 y6 g0 g1 g2 g3 g4 g5 g6
  go_wp2
  refine bodyPost_ret (v := .agg #[.int .i64 3, .string ⟨#[]⟩, .int .i64 0, .int .i64 0, .int .i64 0, .int .i64 0, .int .i64 nm]) (by simp [results, Try.results54, go_sem, r0, r1, r2, r3, r4, r5, r6]) rfl ⟨rfl, ?_⟩
  exact below_set7 HB2.out _ (Nat.le_refl _) _ _ _ _ _ _ _
set_option maxRecDepth 100000 in
set_option maxHeartbeats 2000000 in
theorem opOfBytes_upA (b off c : Nat) (bs : List Int) (w : World) (hv : OffB w (.slice (some ⟨b, off, none⟩) bs.length c) bs) (hB : Bts bs) (hx : bs.length ≤ 1048576) (h3 : 3 ≤ bs.length) (hk : bs.getD 0 0 = 1) (hc3 : ¬ c = 3) (rc : Int) (rl : ByteArray) (rv ro rp : Int) (hres : readV (bs.drop 3) = resV rc rl rv ro rp) :
    Calls Try.prog 54 #[.slice (some ⟨b, off, none⟩) bs.length c] w fun e w' => e = .returned (opV 1 rl rv ro rp (rdN bs 1) 0) ∧ Below w.heap.size w w' := by
  obtain ⟨-, b', off', e, hb, hc⟩ := hv.ints.at (by omega)
  cases e
  obtain ⟨n, hn⟩ : ∃ n, n = bs.length := ⟨_, rfl⟩
  have HN : Hid (n = bs.length) := hn
  obtain ⟨W, hW⟩ : ∃ W, W = ((w.alloc (.cells #[.int .i64 0, .string ⟨#[]⟩, .int .i64 0, .int .i64 0, .int .i64 0, .int .i64 0, .int .i64 0] 33)).alloc (.cells #[.int .i64 1, .string ⟨#[]⟩, .int .i64 0, .int .i64 0, .int .i64 0, .int .i64 0, .int .i64 0] 33)) := ⟨_, rfl⟩
  have hBW : Below w.heap.size w W := by rw [hW]; exact two_new _ _
  have hR : W.heap[w.heap.size]? = some (.cells #[.int .i64 0, .string ⟨#[]⟩, .int .i64 0, .int .i64 0, .int .i64 0, .int .i64 0, .int .i64 0] 33) := by rw [hW]; exact heap_alloc_old' _ _ _ (heap_alloc_new w _)
  have hX : W.heap[w.heap.size + 1]? = some (.cells #[.int .i64 1, .string ⟨#[]⟩, .int .i64 0, .int .i64 0, .int .i64 0, .int .i64 0, .int .i64 0] 33) := by rw [hW]; exact heap_new2 w _ _
  have q0 := ((one_new (.cells #[.int .i64 0, .string ⟨#[]⟩, .int .i64 0, .int .i64 0, .int .i64 0, .int .i64 0, .int .i64 0] 33)).cell (p := ⟨b, off + 0, none⟩) hb).trans (hc 0 (by omega))
  rw [Nat.add_zero] at q0
  rw [hk] at q0
  have hNm := fun w' (hbq : Below W.heap.size W w') => numberAt_any b off c n 1 (bs.getD 1 0) (bs.getD 2 0) w' (by omega) (by omega) ((hbq.cell (p := ⟨b, off + 1, none⟩) (Nat.lt_of_lt_of_le hb hBW.size)).trans ((hBW.cell (p := ⟨b, off + 1, none⟩) hb).trans (hc 1 (by omega)))) ((hbq.cell (p := ⟨b, off + 2, none⟩) (Nat.lt_of_lt_of_le hb hBW.size)).trans ((hBW.cell (p := ⟨b, off + 2, none⟩) hb).trans (hc 2 (by omega)))) (hB.at (by omega)) (hB.at (by omega))
  have eN : 256 * bs.getD 1 0 + bs.getD 2 0 = rdN bs 1 := rfl
  rw [eN] at hNm
  have hRd : ∀ w', Below w.heap.size w w' → Calls Try.prog 95 #[.slice (some ⟨b, off + 3, none⟩) (n - 3) (c - 3)] w' fun e w'' => e = .returned (resV rc rl rv ro rp) ∧ Below w'.heap.size w' w'' := fun w' hbq => by
    rw [← hres]
    exact implReadRecord_anyO _ (bs.drop 3) w' (by rw [hn]; exact (hv.drop3 h3).below hbq) (fun x hx => hB x (List.mem_of_mem_drop hx)) (by rw [List.length_drop]; omega)
  have hfl := fun w => fldRR1 rc rl rv ro rp w
  have hcn : bs.length ≤ c := by
    obtain ⟨⟨a, c', e, hcap⟩, -⟩ := hv
    cases e
    omega
  rw [← hn] at h3 hcn ⊢
  have h3i : ¬ ((n : Nat) : Int) < 3 := by omega
  have h0i : ¬ ((n : Nat) : Int) = 0 := by omega
  generalize rdN bs 1 = nm at *
  have HW : Hid (((w.alloc (.cells #[.int .i64 0, .string ⟨#[]⟩, .int .i64 0, .int .i64 0, .int .i64 0, .int .i64 0, .int .i64 0] 33)).alloc (.cells #[.int .i64 1, .string ⟨#[]⟩, .int .i64 0, .int .i64 0, .int .i64 0, .int .i64 0, .int .i64 0] 33)) = W) := hW.symm
  have HBW : Hid (Below w.heap.size w W) := hBW
  have HR : Hid (W.heap[w.heap.size]? = some (.cells #[.int .i64 0, .string ⟨#[]⟩, .int .i64 0, .int .i64 0, .int .i64 0, .int .i64 0, .int .i64 0] 33)) := hR
  have HX : Hid (W.heap[w.heap.size + 1]? = some (.cells #[.int .i64 1, .string ⟨#[]⟩, .int .i64 0, .int .i64 0, .int .i64 0, .int .i64 0, .int .i64 0] 33)) := hX
  have HL : Hid (w.heap.size + 1 < W.heap.size) := (Array.getElem?_eq_some_iff.1 hX).1
  unfold resV at hRd hfl
  unfold recV at hfl
  clear hv hB hc hx HN hn hW hBW hR hX eN hk hres
  go_enter Try.func54, Try.ntmps54
  go_wp2_with fail
  rw [HW.out]
  refine (hNm _ (Below.refl _ _)).mono ?_
  rintro e w1 ⟨rfl, nd, hd1⟩
  have hb1 : Below W.heap.size W w1 := by rw [hd1]; exact below_drewN (Below.refl _ _) nd
  clear hd1 hNm HW q0
  have hx1 := (hb1.block _ HL.out).trans HX.out
  have hr1 := (hb1.block w.heap.size (by have := HL.out; omega)).trans HR.out
  obtain ⟨⟨y0, y1, y2, y3, y4, y5, y6⟩, g0, g1, g2, g3, g4, g5, g6⟩ := seven_cellsO hx1
  obtain ⟨W2, hW2⟩ : ∃ W2, W2 = w1.setCell ⟨w.heap.size + 1, 5, none⟩ (.int .i64 nm) := ⟨_, rfl⟩
  have hx2 := put_five7 hx1 (.int .i64 nm)
  rw [← hW2] at hx2
  have hr2 : W2.heap[w.heap.size]? = some (.cells #[.int .i64 0, .string ⟨#[]⟩, .int .i64 0, .int .i64 0, .int .i64 0, .int .i64 0, .int .i64 0] 33) := by rw [hW2]; exact (heap_setCell_other w1 ⟨w.heap.size + 1, 5, none⟩ _ _ (by show w.heap.size ≠ w.heap.size + 1; omega)).trans hr1
  have HB2 : Hid (Below w.heap.size w W2) := (by rw [hW2]; exact (below_after_of HBW.out hb1).setCell (Nat.le_succ _) _ : Below w.heap.size w W2)
  have HW2 : Hid (w1.setCell ⟨w.heap.size + 1, 5, none⟩ (.int .i64 nm) = W2) := hW2.symm
  have hRd := hRd _ HB2.out
  clear hW2 hx1 hr1 hb1
  go_wp2_with fail
  rw [HW2.out]
  refine hRd.mono ?_
  rintro e w3 ⟨rfl, hb3⟩
  have hx3 := (hb3.block _ (Array.getElem?_eq_some_iff.1 hx2).1).trans hx2
  have hr3 := (hb3.block _ (Array.getElem?_eq_some_iff.1 hr2).1).trans hr2
  clear hRd HW2 hx2 hr2 y0 y1 y2 y3 y4 y5 y6 g0 g1 g2 g3 g4 g5 g6
  obtain ⟨⟨y0, y1, y2, y3, y4, y5, y6⟩, g0, g1, g2, g3, g4, g5, g6⟩ := seven_cellsO hx3
  obtain ⟨W4, hW4⟩ : ∃ W4, W4 = (((w3.setCell ⟨w.heap.size + 1, 1, none⟩ (.string rl)).setCell ⟨w.heap.size + 1, 2, none⟩ (.int .i64 rv)).setCell ⟨w.heap.size + 1, 3, none⟩ (.int .i64 ro)).setCell ⟨w.heap.size + 1, 4, none⟩ (.int .i64 rp) := ⟨_, rfl⟩
  have hx4 := put_rec7 hx3 (.string rl) (.int .i64 rv) (.int .i64 ro) (.int .i64 rp)
  rw [← hW4] at hx4
  have hr4 : W4.heap[w.heap.size]? = some (.cells #[.int .i64 0, .string ⟨#[]⟩, .int .i64 0, .int .i64 0, .int .i64 0, .int .i64 0, .int .i64 0] 33) := by rw [hW4]; exact (other_set4 (by omega) _ _ _ _).trans hr3
  have HB4 : Hid (Below w.heap.size w W4) := (by rw [hW4]; exact below_set4 (below_after_of HB2.out hb3) _ (Nat.le_succ _) _ _ _ _ : Below w.heap.size w W4)
  have HW4 : Hid ((((w3.setCell ⟨w.heap.size + 1, 1, none⟩ (.string rl)).setCell ⟨w.heap.size + 1, 2, none⟩ (.int .i64 rv)).setCell ⟨w.heap.size + 1, 3, none⟩ (.int .i64 ro)).setCell ⟨w.heap.size + 1, 4, none⟩ (.int .i64 rp) = W4) := hW4.symm
  obtain ⟨⟨z0, z1, z2, z3, z4, z5, z6⟩, -⟩ := seven_cellsO hx4
  obtain ⟨⟨r0, r1, r2, r3, r4, r5, r6⟩, f0, f1, f2, f3, f4, f5, f6⟩ := seven_cellsO hr4
  clear hW4 hx4 hr4 hx3 hr3 hb3
  go_upto_region 12 with fail
  rw [HW4.out]
  clear HW4 y0 y1 y2 y3 y4 y5 y6 g0 g1 g2 g3 g4 g5 g6
  go_wp2
  refine bodyPost_ret (v := .agg #[.int .i64 1, .string rl, .int .i64 rv, .int .i64 ro, .int .i64 rp, .int .i64 nm, .int .i64 0]) (by simp [results, Try.results54, go_sem, r0, r1, r2, r3, r4, r5, r6]) rfl ⟨rfl, ?_⟩
  exact below_set7 HB4.out _ (Nat.le_refl _) _ _ _ _ _ _ _
set_option maxRecDepth 100000 in
set_option maxHeartbeats 2000000 in
theorem opOfBytes_upB (b off c : Nat) (bs : List Int) (w : World) (hv : OffB w (.slice (some ⟨b, off, none⟩) bs.length c) bs) (hB : Bts bs) (hx : bs.length ≤ 1048576) (h3 : 3 ≤ bs.length) (hk : bs.getD 0 0 = 1) (hc3 : c = 3) (rc : Int) (rl : ByteArray) (rv ro rp : Int) (hres : readV (bs.drop 3) = resV rc rl rv ro rp) :
    Calls Try.prog 54 #[.slice (some ⟨b, off, none⟩) bs.length c] w fun e w' => e = .returned (opV 1 rl rv ro rp (rdN bs 1) 0) ∧ Below w.heap.size w w' := by
  obtain ⟨-, b', off', e, hb, hc⟩ := hv.ints.at (by omega)
  cases e
  obtain ⟨n, hn⟩ : ∃ n, n = bs.length := ⟨_, rfl⟩
  have HN : Hid (n = bs.length) := hn
  obtain ⟨W, hW⟩ : ∃ W, W = ((w.alloc (.cells #[.int .i64 0, .string ⟨#[]⟩, .int .i64 0, .int .i64 0, .int .i64 0, .int .i64 0, .int .i64 0] 33)).alloc (.cells #[.int .i64 1, .string ⟨#[]⟩, .int .i64 0, .int .i64 0, .int .i64 0, .int .i64 0, .int .i64 0] 33)) := ⟨_, rfl⟩
  have hBW : Below w.heap.size w W := by rw [hW]; exact two_new _ _
  have hR : W.heap[w.heap.size]? = some (.cells #[.int .i64 0, .string ⟨#[]⟩, .int .i64 0, .int .i64 0, .int .i64 0, .int .i64 0, .int .i64 0] 33) := by rw [hW]; exact heap_alloc_old' _ _ _ (heap_alloc_new w _)
  have hX : W.heap[w.heap.size + 1]? = some (.cells #[.int .i64 1, .string ⟨#[]⟩, .int .i64 0, .int .i64 0, .int .i64 0, .int .i64 0, .int .i64 0] 33) := by rw [hW]; exact heap_new2 w _ _
  have q0 := ((one_new (.cells #[.int .i64 0, .string ⟨#[]⟩, .int .i64 0, .int .i64 0, .int .i64 0, .int .i64 0, .int .i64 0] 33)).cell (p := ⟨b, off + 0, none⟩) hb).trans (hc 0 (by omega))
  rw [Nat.add_zero] at q0
  rw [hk] at q0
  have hNm := fun w' (hbq : Below W.heap.size W w') => numberAt_any b off c n 1 (bs.getD 1 0) (bs.getD 2 0) w' (by omega) (by omega) ((hbq.cell (p := ⟨b, off + 1, none⟩) (Nat.lt_of_lt_of_le hb hBW.size)).trans ((hBW.cell (p := ⟨b, off + 1, none⟩) hb).trans (hc 1 (by omega)))) ((hbq.cell (p := ⟨b, off + 2, none⟩) (Nat.lt_of_lt_of_le hb hBW.size)).trans ((hBW.cell (p := ⟨b, off + 2, none⟩) hb).trans (hc 2 (by omega)))) (hB.at (by omega)) (hB.at (by omega))
  have eN : 256 * bs.getD 1 0 + bs.getD 2 0 = rdN bs 1 := rfl
  rw [eN] at hNm
  have hRd : ∀ w', Below w.heap.size w w' → Calls Try.prog 95 #[.slice (some ⟨b, off, none⟩) 0 0] w' fun e w'' => e = .returned (resV rc rl rv ro rp) ∧ Below w'.heap.size w' w'' := fun w' hbq => by
    rw [← hres]
    exact implReadRecord_anyO _ (bs.drop 3) w' (by have e1 : bs.drop 3 = [] := List.drop_eq_nil_of_le (by obtain ⟨⟨a, c', e, hcap⟩, -⟩ := hv; cases e; omega); rw [e1]; exact ⟨⟨_, _, rfl, Nat.le_refl _⟩, Or.inl ⟨rfl, _, _, rfl⟩⟩) (fun x hx => hB x (List.mem_of_mem_drop hx)) (by rw [List.length_drop]; omega)
  have hfl := fun w => fldRR1 rc rl rv ro rp w
  have hcn : bs.length ≤ c := by
    obtain ⟨⟨a, c', e, hcap⟩, -⟩ := hv
    cases e
    omega
  rw [← hn] at h3 hcn ⊢
  have h3i : ¬ ((n : Nat) : Int) < 3 := by omega
  have h0i : ¬ ((n : Nat) : Int) = 0 := by omega
  generalize rdN bs 1 = nm at *
  have HW : Hid (((w.alloc (.cells #[.int .i64 0, .string ⟨#[]⟩, .int .i64 0, .int .i64 0, .int .i64 0, .int .i64 0, .int .i64 0] 33)).alloc (.cells #[.int .i64 1, .string ⟨#[]⟩, .int .i64 0, .int .i64 0, .int .i64 0, .int .i64 0, .int .i64 0] 33)) = W) := hW.symm
  have HBW : Hid (Below w.heap.size w W) := hBW
  have HR : Hid (W.heap[w.heap.size]? = some (.cells #[.int .i64 0, .string ⟨#[]⟩, .int .i64 0, .int .i64 0, .int .i64 0, .int .i64 0, .int .i64 0] 33)) := hR
  have HX : Hid (W.heap[w.heap.size + 1]? = some (.cells #[.int .i64 1, .string ⟨#[]⟩, .int .i64 0, .int .i64 0, .int .i64 0, .int .i64 0, .int .i64 0] 33)) := hX
  have HL : Hid (w.heap.size + 1 < W.heap.size) := (Array.getElem?_eq_some_iff.1 hX).1
  unfold resV at hRd hfl
  unfold recV at hfl
  have hn3 : n = 3 := by omega
  subst hn3 hc3
  clear hv hB hc hx HN hn hW hBW hR hX eN hk hres
  go_enter Try.func54, Try.ntmps54
  go_wp2_with fail
  rw [HW.out]
  refine (hNm _ (Below.refl _ _)).mono ?_
  rintro e w1 ⟨rfl, nd, hd1⟩
  have hb1 : Below W.heap.size W w1 := by rw [hd1]; exact below_drewN (Below.refl _ _) nd
  clear hd1 hNm HW q0
  have hx1 := (hb1.block _ HL.out).trans HX.out
  have hr1 := (hb1.block w.heap.size (by have := HL.out; omega)).trans HR.out
  obtain ⟨⟨y0, y1, y2, y3, y4, y5, y6⟩, g0, g1, g2, g3, g4, g5, g6⟩ := seven_cellsO hx1
  obtain ⟨W2, hW2⟩ : ∃ W2, W2 = w1.setCell ⟨w.heap.size + 1, 5, none⟩ (.int .i64 nm) := ⟨_, rfl⟩
  have hx2 := put_five7 hx1 (.int .i64 nm)
  rw [← hW2] at hx2
  have hr2 : W2.heap[w.heap.size]? = some (.cells #[.int .i64 0, .string ⟨#[]⟩, .int .i64 0, .int .i64 0, .int .i64 0, .int .i64 0, .int .i64 0] 33) := by rw [hW2]; exact (heap_setCell_other w1 ⟨w.heap.size + 1, 5, none⟩ _ _ (by show w.heap.size ≠ w.heap.size + 1; omega)).trans hr1
  have HB2 : Hid (Below w.heap.size w W2) := (by rw [hW2]; exact (below_after_of HBW.out hb1).setCell (Nat.le_succ _) _ : Below w.heap.size w W2)
  have HW2 : Hid (w1.setCell ⟨w.heap.size + 1, 5, none⟩ (.int .i64 nm) = W2) := hW2.symm
  have hRd := hRd _ HB2.out
  clear hW2 hx1 hr1 hb1
  go_wp2_with fail
  rw [HW2.out]
  refine hRd.mono ?_
  rintro e w3 ⟨rfl, hb3⟩
  have hx3 := (hb3.block _ (Array.getElem?_eq_some_iff.1 hx2).1).trans hx2
  have hr3 := (hb3.block _ (Array.getElem?_eq_some_iff.1 hr2).1).trans hr2
  clear hRd HW2 hx2 hr2 y0 y1 y2 y3 y4 y5 y6 g0 g1 g2 g3 g4 g5 g6
  obtain ⟨⟨y0, y1, y2, y3, y4, y5, y6⟩, g0, g1, g2, g3, g4, g5, g6⟩ := seven_cellsO hx3
  obtain ⟨W4, hW4⟩ : ∃ W4, W4 = (((w3.setCell ⟨w.heap.size + 1, 1, none⟩ (.string rl)).setCell ⟨w.heap.size + 1, 2, none⟩ (.int .i64 rv)).setCell ⟨w.heap.size + 1, 3, none⟩ (.int .i64 ro)).setCell ⟨w.heap.size + 1, 4, none⟩ (.int .i64 rp) := ⟨_, rfl⟩
  have hx4 := put_rec7 hx3 (.string rl) (.int .i64 rv) (.int .i64 ro) (.int .i64 rp)
  rw [← hW4] at hx4
  have hr4 : W4.heap[w.heap.size]? = some (.cells #[.int .i64 0, .string ⟨#[]⟩, .int .i64 0, .int .i64 0, .int .i64 0, .int .i64 0, .int .i64 0] 33) := by rw [hW4]; exact (other_set4 (by omega) _ _ _ _).trans hr3
  have HB4 : Hid (Below w.heap.size w W4) := (by rw [hW4]; exact below_set4 (below_after_of HB2.out hb3) _ (Nat.le_succ _) _ _ _ _ : Below w.heap.size w W4)
  have HW4 : Hid ((((w3.setCell ⟨w.heap.size + 1, 1, none⟩ (.string rl)).setCell ⟨w.heap.size + 1, 2, none⟩ (.int .i64 rv)).setCell ⟨w.heap.size + 1, 3, none⟩ (.int .i64 ro)).setCell ⟨w.heap.size + 1, 4, none⟩ (.int .i64 rp) = W4) := hW4.symm
  obtain ⟨⟨z0, z1, z2, z3, z4, z5, z6⟩, -⟩ := seven_cellsO hx4
  obtain ⟨⟨r0, r1, r2, r3, r4, r5, r6⟩, f0, f1, f2, f3, f4, f5, f6⟩ := seven_cellsO hr4
  clear hW4 hx4 hr4 hx3 hr3 hb3
  go_upto_region 12 with fail
  rw [HW4.out]
  clear HW4 y0 y1 y2 y3 y4 y5 y6 g0 g1 g2 g3 g4 g5 g6
  go_wp2
  refine bodyPost_ret (v := .agg #[.int .i64 1, .string rl, .int .i64 rv, .int .i64 ro, .int .i64 rp, .int .i64 nm, .int .i64 0]) (by simp [results, Try.results54, go_sem, r0, r1, r2, r3, r4, r5, r6]) rfl ⟨rfl, ?_⟩
  exact below_set7 HB4.out _ (Nat.le_refl _) _ _ _ _ _ _ _
theorem opOfBytes_any (v : Value) (bs : List Int) (w : World) (hv : OffB w v bs) (hB : Bts bs) (hx : bs.length ≤ 1048576) :
    Calls Try.prog 54 #[v] w fun e w' => e = .returned (opnV (rdOpn bs)) ∧ Below w.heap.size w w' := by
  by_cases h0 : 0 < bs.length
  · obtain ⟨b, off, c, rfl, hcap⟩ := hv.open h0
    by_cases h3 : bs.length < 3
    · exact opOfBytes_short b off c bs w hv hB hx h0 h3
    · by_cases h1 : bs.getD 0 0 = 1
      · have key : ∀ rc rl rv ro rp, readV (bs.drop 3) = resV rc rl rv ro rp → Calls Try.prog 54 #[.slice (some ⟨b, off, none⟩) bs.length c] w fun e w' => e = .returned (opV 1 rl rv ro rp (rdN bs 1) 0) ∧ Below w.heap.size w w' := fun rc rl rv ro rp hr => by
          by_cases hc3 : c = 3
          · exact opOfBytes_upB b off c bs w hv hB hx (by omega) h1 hc3 rc rl rv ro rp hr
          · exact opOfBytes_upA b off c bs w hv hB hx (by omega) h1 hc3 rc rl rv ro rp hr
        rcases Bool.eq_false_or_eq_true (rdB (bs.drop 3)) with h2 | h2
        · rw [rdOpn_up h3 h1 h2]
          exact key _ _ _ _ _ (by unfold readV; rw [if_pos h2])
        · rw [rdOpn_no h3 h1 h2]
          exact key 5 ⟨#[]⟩ 0 0 0 (by unfold readV; rw [h2]; rfl)
      · by_cases hk : bs.getD 0 0 = 3
        · exact opOfBytes_cp b off c bs w hv hB hx (by omega) hk
        · exact opOfBytes_one b off c bs w hv hB hx (by omega) h1 hk
  · have e1 : bs = [] := List.eq_nil_of_length_eq_zero (by omega)
    subst e1
    obtain ⟨a, c, rfl⟩ := hv.shape
    rw [rdOpn_short (by simp)]
    simp only [List.length_nil] at *
    clear hv hB hx h0
    go_enter Try.func54, Try.ntmps54
    go_wp2
    exact bodyPost_ret (v := .agg #[.int .i64 0, .string ⟨#[]⟩, .int .i64 0, .int .i64 0, .int .i64 0, .int .i64 0, .int .i64 0]) (by simp [results, Try.results54, go_sem]) rfl ⟨rfl, one_new _⟩
set_option maxRecDepth 100000 in
set_option maxHeartbeats 2000000 in
theorem implReadOp_any (v : Value) (bs : List Int) (w : World) (hv : OffB w v bs) (hB : Bts bs) (hx : bs.length ≤ 1048576) :
    Calls Try.prog 19 #[v] w fun e w' => e = .returned (rdoV bs) ∧ Below w.heap.size w w' := by
  obtain ⟨a, c0, rfl⟩ := hv.shape
  obtain ⟨W, hW⟩ : ∃ W, W = w.alloc (.cells #[.int .i64 0, .int .i64 0, .string ⟨#[]⟩, .int .i64 0, .int .i64 0, .int .i64 0, .int .i64 0, .int .i64 0] 39) := ⟨_, rfl⟩
  have hBW : Below w.heap.size w W := by rw [hW]; exact one_new _
  have HBW : Hid (Below w.heap.size w W) := hBW
  have HR : Hid (W.heap[w.heap.size]? = some (.cells #[.int .i64 0, .int .i64 0, .string ⟨#[]⟩, .int .i64 0, .int .i64 0, .int .i64 0, .int .i64 0, .int .i64 0] 39)) := (by rw [hW]; exact heap_alloc_new w _ : W.heap[w.heap.size]? = some (.cells #[.int .i64 0, .int .i64 0, .string ⟨#[]⟩, .int .i64 0, .int .i64 0, .int .i64 0, .int .i64 0, .int .i64 0] 39))
  have HL : Hid (w.heap.size < W.heap.size) := (Array.getElem?_eq_some_iff.1 HR.out).1
  have HW : Hid (w.alloc (.cells #[.int .i64 0, .int .i64 0, .string ⟨#[]⟩, .int .i64 0, .int .i64 0, .int .i64 0, .int .i64 0, .int .i64 0] 39) = W) := hW.symm
  have hO := opOfBytes_any _ bs W (hv.below hBW) hB hx
  have hs := rdOpn_size hx
  obtain ⟨k, l, vv, oo, pp, ss, nn, hxx⟩ : ∃ k l vv oo pp ss nn, rdOpn bs = ⟨k, l, vv, oo, pp, ss, nn⟩ := ⟨_, _, _, _, _, _, _, rfl⟩
  have hC : (rdOpn bs).c = opC k l vv oo pp ss nn := by rw [hxx]; rfl
  have hL : (rdOpn bs).L = opL k l vv oo pp ss nn := by rw [hxx]; rfl
  have hV : opnV (rdOpn bs) = opV k l vv oo pp ss nn := by rw [hxx]; rfl
  have hRV : ∀ c, oprnV c (rdOpn bs) = oprV c k l vv oo pp ss nn := fun c => by rw [hxx]; rfl
  rw [hxx] at hs
  rw [hV] at hO
  have hP := fun w => implPackOp_any k l vv oo pp ss nn w hs
  have HV : Hid (∀ w', Below w.heap.size w w' → Ints .u8 w' (.slice a bs.length c0) bs) := fun w' h => hv.ints.below h
  by_cases h0 : opC k l vv oo pp ss nn = 0
  · rw [opP_ok h0, h0] at hP
    have hE : ∀ u w', Ints .u8 w' u (opL k l vv oo pp ss nn) → Below w.heap.size w w' → Calls Try.prog 55 #[u, .slice a bs.length c0] w' fun e w'' => e = .returned (.bool (decide (opL k l vv oo pp ss nn = bs))) ∧ w'' = w' := fun u w' h1 h2 => bytesEqual_any u _ _ bs w' h1 (HV.out _ h2) (opL_bts h0) hB
    have hrT : decide (opL k l vv oo pp ss nn = bs) = true → rdoV bs = oprV 0 k l vv oo pp ss nn := fun h => by
      rw [decide_eq_true_iff] at h
      unfold rdoV
      rw [isB_t (hC.trans h0) (by rw [hL]; exact h.symm), if_pos rfl, hRV]
    have hrF : decide (opL k l vv oo pp ss nn = bs) = false → rdoV bs = oprV 5 0 ⟨#[]⟩ 0 0 0 0 0 := fun h => by
      rw [decide_eq_false_iff_not] at h
      unfold rdoV
      rw [isB_l (fun e => h (by rw [← hL]; exact e.symm))]
      rfl
    generalize decide (opL k l vv oo pp ss nn = bs) = q at *
    generalize opL k l vv oo pp ss nn = ys at *
    clear hL hC hV hRV hs h0 hxx hW HV hv hBW hB hx
    generalize bs.length = n at *
    cases q
    · have hr : rdoV bs = oprV 5 0 ⟨#[]⟩ 0 0 0 0 0 := hrF (by rfl)
      rw [hr]
      clear hr hrT hrF
      unfold opV at hO hP
      go_enter Try.func19, Try.ntmps19
      go_wp2_with fail
      rw [HW.out]
      refine hO.mono ?_
      rintro e w1 ⟨rfl, hb1⟩
      clear hO HW
      go_wp2_with fail
      refine (hP _).mono ?_
      intro e w2 h2
      obtain ⟨a2, c2, rfl, hb2, own2⟩ := h2.use
      have hb12 : Below W.heap.size W w2 := below_after_of hb1 (below_after hb2)
      have hX2 := (hb2.block _ (by simp)).trans (heap_alloc_new w1 (.cells #[.int .i64 k, .string l, .int .i64 vv, .int .i64 oo, .int .i64 pp, .int .i64 ss, .int .i64 nn] 33))
      clear hP h2
      have hb3 : Below W.heap.size W (w2.alloc (.cells #[.int .i64 0, .slice a2 ys.length c2] 29)) := below_after_of hb12 (one_new _)
      have hE := hE (.slice a2 ys.length c2) _ ((own_ints own2).below (one_new (.cells #[.int .i64 0, .slice a2 ys.length c2] 29))) (below_after_of HBW.out hb3)
      go_wp2_with fail
      refine hE.mono ?_
      rintro e w4 ⟨rfl, hw4⟩
      have hb4 : Below w.heap.size w w4 := by rw [hw4]; exact below_after_of HBW.out hb3
      have hX4 : w4.heap[w1.heap.size]? = some (.cells #[.int .i64 k, .string l, .int .i64 vv, .int .i64 oo, .int .i64 pp, .int .i64 ss, .int .i64 nn] 33) := by rw [hw4]; exact heap_alloc_old' _ _ _ hX2
      have hR4 : w4.heap[w.heap.size]? = some (.cells #[.int .i64 0, .int .i64 0, .string ⟨#[]⟩, .int .i64 0, .int .i64 0, .int .i64 0, .int .i64 0, .int .i64 0] 39) := by rw [hw4]; exact (hb3.block _ HL.out).trans HR.out
      clear hw4 hE own2 hb2 hb3 hX2 hb1 hb12
      obtain ⟨⟨x0, x1, x2, x3, x4, x5, x6⟩, -⟩ := seven_cellsO hX4
      obtain ⟨⟨r0, r1, r2, r3, r4, r5, r6, r7⟩, f0, f1, f2, f3, f4, f5, f6, f7⟩ := eight_cellsO hR4
      clear hX4 hR4
      go_wp2
      exact bodyPost_ret (v := .agg #[.int .i64 5, .int .i64 0, .string ⟨#[]⟩, .int .i64 0, .int .i64 0, .int .i64 0, .int .i64 0, .int .i64 0]) (by simp [results, Try.results19, go_sem, r0, r1, r2, r3, r4, r5, r6, r7]) rfl ⟨rfl, below_set8 hb4 _ (Nat.le_refl _) _ _ _ _ _ _ _ _⟩
    · have hr : rdoV bs = oprV 0 k l vv oo pp ss nn := hrT (by rfl)
      rw [hr]
      clear hr hrT hrF
      unfold opV at hO hP
      go_enter Try.func19, Try.ntmps19
      go_wp2_with fail
      rw [HW.out]
      refine hO.mono ?_
      rintro e w1 ⟨rfl, hb1⟩
      clear hO HW
      go_wp2_with fail
      refine (hP _).mono ?_
      intro e w2 h2
      obtain ⟨a2, c2, rfl, hb2, own2⟩ := h2.use
      have hb12 : Below W.heap.size W w2 := below_after_of hb1 (below_after hb2)
      have hX2 := (hb2.block _ (by simp)).trans (heap_alloc_new w1 (.cells #[.int .i64 k, .string l, .int .i64 vv, .int .i64 oo, .int .i64 pp, .int .i64 ss, .int .i64 nn] 33))
      clear hP h2
      have hb3 : Below W.heap.size W (w2.alloc (.cells #[.int .i64 0, .slice a2 ys.length c2] 29)) := below_after_of hb12 (one_new _)
      have hE := hE (.slice a2 ys.length c2) _ ((own_ints own2).below (one_new (.cells #[.int .i64 0, .slice a2 ys.length c2] 29))) (below_after_of HBW.out hb3)
      go_wp2_with fail
      refine hE.mono ?_
      rintro e w4 ⟨rfl, hw4⟩
      have hb4 : Below w.heap.size w w4 := by rw [hw4]; exact below_after_of HBW.out hb3
      have hX4 : w4.heap[w1.heap.size]? = some (.cells #[.int .i64 k, .string l, .int .i64 vv, .int .i64 oo, .int .i64 pp, .int .i64 ss, .int .i64 nn] 33) := by rw [hw4]; exact heap_alloc_old' _ _ _ hX2
      have hR4 : w4.heap[w.heap.size]? = some (.cells #[.int .i64 0, .int .i64 0, .string ⟨#[]⟩, .int .i64 0, .int .i64 0, .int .i64 0, .int .i64 0, .int .i64 0] 39) := by rw [hw4]; exact (hb3.block _ HL.out).trans HR.out
      clear hw4 hE own2 hb2 hb3 hX2 hb1 hb12
      obtain ⟨⟨x0, x1, x2, x3, x4, x5, x6⟩, -⟩ := seven_cellsO hX4
      obtain ⟨⟨r0, r1, r2, r3, r4, r5, r6, r7⟩, f0, f1, f2, f3, f4, f5, f6, f7⟩ := eight_cellsO hR4
      clear hX4 hR4
      go_wp2
      exact bodyPost_ret (v := .agg #[.int .i64 0, .int .i64 k, .string l, .int .i64 vv, .int .i64 oo, .int .i64 pp, .int .i64 ss, .int .i64 nn]) (by simp [results, Try.results19, go_sem, r0, r1, r2, r3, r4, r5, r6, r7]) rfl ⟨rfl, below_set8 hb4 _ (Nat.le_refl _) _ _ _ _ _ _ _ _⟩
  · have hr : rdoV bs = oprV 5 0 ⟨#[]⟩ 0 0 0 0 0 := by
      unfold rdoV
      rw [isB_c (by rw [hC]; exact h0)]
      rfl
    rw [hr]
    have h1 := code_ne h0
    rw [opP_no h0] at hP
    generalize opC k l vv oo pp ss nn = cd at *
    clear hL hC hV hRV hs h0 hxx hW HV hv hBW hB hx hr
    generalize bs.length = n at *
    unfold opV at hO hP
    go_enter Try.func19, Try.ntmps19
    go_wp2_with fail
    rw [HW.out]
    refine hO.mono ?_
    rintro e w1 ⟨rfl, hb1⟩
    clear hO HW
    go_wp2_with fail
    refine (hP _).mono ?_
    intro e w2 h2
    obtain ⟨a2, c2, rfl, hb2, own2⟩ := h2.use
    have hb12 : Below W.heap.size W w2 := below_after_of hb1 (below_after hb2)
    have hb4 : Below w.heap.size w (w2.alloc (.cells #[.int .i64 cd, .slice a2 0 c2] 29)) := below_after_of HBW.out (below_after_of hb12 (one_new _))
    have hR4 : (w2.alloc (.cells #[.int .i64 cd, .slice a2 0 c2] 29)).heap[w.heap.size]? = some (.cells #[.int .i64 0, .int .i64 0, .string ⟨#[]⟩, .int .i64 0, .int .i64 0, .int .i64 0, .int .i64 0, .int .i64 0] 39) := heap_alloc_old' _ _ _ ((hb12.block _ HL.out).trans HR.out)
    obtain ⟨⟨r0, r1, r2, r3, r4, r5, r6, r7⟩, f0, f1, f2, f3, f4, f5, f6, f7⟩ := eight_cellsO hR4
    clear hP h2 own2 hb2 hR4 hb1 hb12
    simp only [List.length_nil]
    go_wp2
    exact bodyPost_ret (v := .agg #[.int .i64 5, .int .i64 0, .string ⟨#[]⟩, .int .i64 0, .int .i64 0, .int .i64 0, .int .i64 0, .int .i64 0]) (by simp [results, Try.results19, go_sem, r0, r1, r2, r3, r4, r5, r6, r7]) rfl ⟨rfl, below_set8 hb4 _ (Nat.le_refl _) _ _ _ _ _ _ _ _⟩
end U
end Go.Proofs.Ytcdodpcdennemaa
