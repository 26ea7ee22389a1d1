/- Joined: what the texts behind it need. -/
import Derived.Test.YtcdodpcdennemaaRead2a
import Derived.Defers
import Derived.Recover
import Derived.Laws.Pointers
import Derived.Test.YtcdodpcdennemaaRdo4
import Derived.Deep.Cut
import Derived.Test.YtcdodpcdennemaaJrH
import Derived.Test.YtcdodpcdennemaaJr7
import Derived.Test.YtcdodpcdennemaaStr
import Derived.Test.YtcdodpcdennemaaHeldBy
import Derived.Test.YtcdodpcdennemaaPairs
import Derived.Test.YtcdodpcdennemaaJrE
import Derived.Test.YtcdodpcdennemaaTo
import Derived.Test.YtcdodpcdennemaaByteS
import Derived.Test.YtcdodpcdennemaaRows
import Derived.WalkKit
import Derived.ProofKit
import Derived.OpenShut
import Derived.ShutString
import Derived.WalkSmall
import Derived.Test.YtcdodpcdennemaaInts
/- A panic of a read record that is recovered. -/
namespace Go.Proofs.Ytcdodpcdennemaa
open Go.RowKit
namespace U
/-- What a result is behind the store of another. -/
def resSet (w : World) (g : Nat) (c : Int) (l : ByteArray) (v o p : Int) : World :=
  ((((w.setCell ⟨g, 0, none⟩ (.int .i64 c)).setCell ⟨g, 1, none⟩ (.string l)).setCell ⟨g, 2, none⟩ (.int .i64 v)).setCell ⟨g, 3, none⟩ (.int .i64 o)).setCell ⟨g, 4, none⟩ (.int .i64 p)
set_option maxRecDepth 100000 in
set_option maxHeartbeats 1000000 in
theorem catch_panicking (g : Nat) (c : Int) (l : ByteArray) (v o p : Int) (u : TypeId) (pv : Value) (older : List PanicEntry) (w : World) (h : ResOwn w g c l v o p) :
    CallsD Try.prog 138 #[.pointer (some ⟨g, 0, none⟩)] (.panicking ({ v := .iface u pv, recovered := false } :: older)) w fun e u' w' =>
      e = .returned (.tuple #[]) ∧ u' = .panicking ({ v := .iface u pv, recovered := true } :: older) ∧ w' = resSet w g 5 ⟨#[]⟩ 0 0 0 := by
  obtain ⟨c0, c1, c2, c3, c4, f0, f1, f2, f3, f4⟩ := h
  refine callsD_of_wpS Try.func138 rfl fun c₀ cs hu => ?_
  apply wpS_seq
  apply wpS_region
  simp [wpOpsS, go_sem, recoverD, hu, Try.ntmps138, Exit.thenS]
  refine wpS_cond (t := true) (by simp [Act.eval, Array.replicate]) ?_
  simp only [if_true]
  apply wpS_region
  simp [wpOpsS, go_sem, c0, c1, c2, c3, c4, f0, f1, f2, f3, f4, bodyPostS, results, Try.results138, resSet]
theorem catch_idle (g : Nat) (w : World) :
    CallsD Try.prog 138 #[.pointer (some ⟨g, 0, none⟩)] .returning w fun e u' w' => e = .returned (.tuple #[]) ∧ u' = .returning ∧ w' = w := by
  refine callsD_of_wpS Try.func138 rfl fun c₀ cs hu => ?_
  apply wpS_seq
  apply wpS_region
  simp [wpOpsS, go_sem, recoverD, hu, Try.ntmps138, Exit.thenS]
  refine wpS_cond (t := false) (by simp [Act.eval, Array.replicate]) ?_
  simp only [Bool.false_eq_true, if_false]
  refine wpS_of_wp (wp_skip ?_)
  cases c₀
  simp_all [bodyPostS, results, Try.results138]
end U
end Go.Proofs.Ytcdodpcdennemaa

/- ReadRecord, the program's, of bytes that lie at an offset. -/
namespace Go.Proofs.Ytcdodpcdennemaa
open Go.RowKit
namespace U
set_option maxRecDepth 100000 in
set_option maxHeartbeats 4000000 in
theorem implReadRecord_anyO (v : Value) (bs : List Int) (w : World) (hv : OffB w v bs) (hB : Bts bs) (hx : bs.length ≤ 1048576) :
    Calls Try.prog 95 #[v] w fun e w' => e = .returned (readV bs) ∧ Below w.heap.size w w' := by
  have hmf : ∀ (fn : Fn) (first cap : Array Value) (w : World), (Instr.makeFunc fn first cap).run Try.prog w = .ok (.func fn first cap) w := fun _ _ _ _ => rfl
  have hP : ∃ f : Bool, ∃ l n o p, (f = true → readV bs = resV 0 l n o p) ∧ (f = false → readV bs = resV 5 ⟨#[]⟩ 0 0 0) ∧ ∀ o', Calls Try.prog 139 #[v] (w.alloc o') fun e w' => (f = true ∧ e = .returned (recV l n o p) ∨ f = false ∧ e = .panicked noRec) ∧ Below (w.alloc o').heap.size (w.alloc o') w' := by
    rcases Bool.eq_false_or_eq_true (shapeB bs) with hs | hs
    · by_cases h0 : rdC bs = 0
      · refine ⟨true, _, _, _, _, fun _ => readV_yes hs h0, (fun h => by cases h), fun o' => (recordOfBytes_shO v bs (w.alloc o') (hv.below (one_new o')) hB hx hs).mono ?_⟩
        rintro e w' ⟨h, hb⟩
        rcases h with ⟨_, he⟩ | ⟨h1, _⟩
        · exact ⟨Or.inl ⟨rfl, he⟩, hb⟩
        · exact absurd h0 h1
      · refine ⟨false, ⟨#[]⟩, 0, 0, 0, (fun h => by cases h), fun _ => readV_code h0, fun o' => (recordOfBytes_shO v bs (w.alloc o') (hv.below (one_new o')) hB hx hs).mono ?_⟩
        rintro e w' ⟨h, hb⟩
        rcases h with ⟨h1, _⟩ | ⟨_, he⟩
        · exact absurd h1 h0
        · exact ⟨Or.inr ⟨rfl, he⟩, hb⟩
    · refine ⟨false, ⟨#[]⟩, 0, 0, 0, (fun h => by cases h), fun _ => readV_shape hs, fun o' => (recordOfBytes_noO v bs (w.alloc o') (hv.below (one_new o')) hB hx hs).mono ?_⟩
      rintro e w' ⟨he, hb⟩
      exact ⟨Or.inr ⟨rfl, he⟩, hb⟩
  obtain ⟨f, l, n, o, p, hy, hn, hC⟩ := hP
  obtain ⟨a, c, rfl⟩ := hv.shape
  clear hv hB hx
  generalize bs.length = len at *
  generalize readV bs = rv at *
  rcases f with _ | _
  · rw [hn rfl]
    clear hn hy
    unfold resV
    go_enter_defers Try.func95, Try.ntmps95
    go_wp2_with fail
    refine (hC _).mono ?_
    rintro e w1 ⟨h, hb1⟩
    rcases h with ⟨h, _⟩ | ⟨_, rfl⟩
    · cases h
    have Z1 := (res_of_heap (heap_alloc_new w _)).belowB hb1 (by simp)
    have hB1 := below_after hb1
    clear hb1 hC
    unfold noRec
    go_wp2
    refine leaves_cons (f := 138) (args := #[.pointer (some ⟨w.heap.size, 0, none⟩)]) (by simp) (by simp [go_sem]) ?_
    refine (catch_panicking w.heap.size 0 ⟨#[]⟩ 0 0 0 9 _ [] _ Z1).mono ?_
    have ⟨c0, c1, c2, c3, c4, f0, f1, f2, f3, f4⟩ := Z1
    rintro e u' w'' ⟨rfl, rfl, rfl⟩
    have hB9 : Below w.heap.size w (resSet w1 w.heap.size 5 ⟨#[]⟩ 0 0 0) := ((((hB1.setCell (Nat.le_refl _) _).setCell (Nat.le_refl _) _).setCell (Nat.le_refl _) _).setCell (Nat.le_refl _) _).setCell (Nat.le_refl _) _
    unfold resSet at hB9 ⊢
    simp [Leaves, settle, results, Try.results95, go_sem, c0, c1, c2, c3, c4]
    exact hB9
  · rw [hy rfl]
    clear hn hy
    unfold resV
    unfold recV at hC
    go_enter_defers Try.func95, Try.ntmps95
    go_wp2_with fail
    refine (hC _).mono ?_
    rintro e w1 ⟨h, hb1⟩
    rcases h with ⟨_, rfl⟩ | ⟨h, _⟩
    · have Z1 := (res_of_heap (heap_alloc_new w _)).belowB hb1 (by simp)
      have hB1 := below_after hb1
      have ⟨c0, c1, c2, c3, c4, f0, f1, f2, f3, f4⟩ := Z1
      clear hb1 hC
      go_wp2
      refine leaves_cons (f := 138) (args := #[.pointer (some ⟨w.heap.size, 0, none⟩)]) (by simp) (by simp [go_sem]) ?_
      refine (catch_idle w.heap.size _).mono ?_
      rintro e u' w'' ⟨rfl, rfl, rfl⟩
      simp [Leaves, settle, results, Try.results95, go_sem, c0, c1, c2, c3, c4]
      exact ((((hB1.setCell (Nat.le_refl _) _).setCell (Nat.le_refl _) _).setCell (Nat.le_refl _) _).setCell (Nat.le_refl _) _).setCell (Nat.le_refl _) _
    · cases h
end U
end Go.Proofs.Ytcdodpcdennemaa

/- Operations out of bytes: what the program reads. -/
namespace Go.Proofs.Ytcdodpcdennemaa
open Go.RowKit
namespace U
set_option maxRecDepth 100000 in
set_option maxHeartbeats 2000000 in
theorem opOfBytes_short (b off c : Nat) (bs : List Int) (w : World) (hv : OffB w (.slice (some ⟨b, off, none⟩) bs.length c) bs) (hB : Bts bs) (hx : bs.length ≤ 1048576) (h0 : 0 < bs.length) (h3 : bs.length < 3) :
    Calls Try.prog 54 #[.slice (some ⟨b, off, none⟩) bs.length c] w fun e w' => e = .returned (opnV (rdOpn bs)) ∧ Below w.heap.size w w' := by
  obtain ⟨-, b', off', e, hb, hc⟩ := hv.ints.at (by omega)
  cases e
  have q0 := ((one_new (.cells #[.int .i64 0, .string ⟨#[]⟩, .int .i64 0, .int .i64 0, .int .i64 0, .int .i64 0, .int .i64 0] 33)).cell (p := ⟨b, off + 0, none⟩) hb).trans (hc 0 (by omega))
  rw [Nat.add_zero] at q0
  rw [rdOpn_short h3]
  have h3i : ((bs.length : Nat) : Int) < 3 := by omega
  have h0i : ¬ ((bs.length : Nat) : Int) = 0 := by omega
  have hkb := hB.at (k := 0) (by omega)
  have hkw : IntKind.i64.wrap (bs.getD 0 0) = bs.getD 0 0 := by rw [IntKind.wrap_i64]; omega
  generalize bs.getD 0 0 = k at *
  generalize bs.length = n at *
  clear hv hB hc hx
  go_enter Try.func54, Try.ntmps54
  go_wp2
  exact bodyPost_ret (v := .agg #[.int .i64 k, .string ⟨#[]⟩, .int .i64 0, .int .i64 0, .int .i64 0, .int .i64 0, .int .i64 0]) (by simp [results, Try.results54, go_sem]) rfl ⟨rfl, two_new _ _⟩
set_option maxRecDepth 100000 in
set_option maxHeartbeats 2000000 in
theorem opOfBytes_one (b off c : Nat) (bs : List Int) (w : World) (hv : OffB w (.slice (some ⟨b, off, none⟩) bs.length c) bs) (hB : Bts bs) (hx : bs.length ≤ 1048576) (h3 : 3 ≤ bs.length) (h1 : ¬ bs.getD 0 0 = 1) (hk : ¬ bs.getD 0 0 = 3) :
    Calls Try.prog 54 #[.slice (some ⟨b, off, none⟩) bs.length c] w fun e w' => e = .returned (opnV (rdOpn bs)) ∧ Below w.heap.size w w' := by
  obtain ⟨-, b', off', e, hb, hc⟩ := hv.ints.at (by omega)
  cases e
  have q0 := ((one_new (.cells #[.int .i64 0, .string ⟨#[]⟩, .int .i64 0, .int .i64 0, .int .i64 0, .int .i64 0, .int .i64 0] 33)).cell (p := ⟨b, off + 0, none⟩) hb).trans (hc 0 (by omega))
  rw [Nat.add_zero] at q0
  rw [rdOpn_one h1 hk]
  have h3i : ¬ ((bs.length : Nat) : Int) < 3 := by omega
  have h0i : ¬ ((bs.length : Nat) : Int) = 0 := by omega
  have hkb := hB.at (k := 0) (by omega)
  have hkw : IntKind.i64.wrap (bs.getD 0 0) = bs.getD 0 0 := by rw [IntKind.wrap_i64]; omega
  generalize bs.getD 0 0 = k at *
  generalize bs.length = n at *
  clear hv hB hc hx
  go_enter Try.func54, Try.ntmps54
  go_wp2
  exact bodyPost_ret (v := .agg #[.int .i64 k, .string ⟨#[]⟩, .int .i64 0, .int .i64 0, .int .i64 0, .int .i64 0, .int .i64 0]) (by simp [results, Try.results54, go_sem]) rfl ⟨rfl, two_new _ _⟩
set_option maxRecDepth 100000 in
set_option maxHeartbeats 2000000 in
theorem opOfBytes_cp (b off c : Nat) (bs : List Int) (w : World) (hv : OffB w (.slice (some ⟨b, off, none⟩) bs.length c) bs) (hB : Bts bs) (hx : bs.length ≤ 1048576) (h3 : 3 ≤ bs.length) (hk : bs.getD 0 0 = 3) :
    Calls Try.prog 54 #[.slice (some ⟨b, off, none⟩) bs.length c] w fun e w' => e = .returned (opnV (rdOpn bs)) ∧ Below w.heap.size w w' := by
  obtain ⟨-, b', off', e, hb, hc⟩ := hv.ints.at (by omega)
  cases e
  obtain ⟨n, hn⟩ : ∃ n, n = bs.length := ⟨_, rfl⟩
  have HN : Hid (n = bs.length) := hn
  obtain ⟨W, hW⟩ : ∃ W, W = ((w.alloc (.cells #[.int .i64 0, .string ⟨#[]⟩, .int .i64 0, .int .i64 0, .int .i64 0, .int .i64 0, .int .i64 0] 33)).alloc (.cells #[.int .i64 3, .string ⟨#[]⟩, .int .i64 0, .int .i64 0, .int .i64 0, .int .i64 0, .int .i64 0] 33)) := ⟨_, rfl⟩
  have hBW : Below w.heap.size w W := by rw [hW]; exact two_new _ _
  have hR : W.heap[w.heap.size]? = some (.cells #[.int .i64 0, .string ⟨#[]⟩, .int .i64 0, .int .i64 0, .int .i64 0, .int .i64 0, .int .i64 0] 33) := by rw [hW]; exact heap_alloc_old' _ _ _ (heap_alloc_new w _)
  have hX : W.heap[w.heap.size + 1]? = some (.cells #[.int .i64 3, .string ⟨#[]⟩, .int .i64 0, .int .i64 0, .int .i64 0, .int .i64 0, .int .i64 0] 33) := by rw [hW]; exact heap_new2 w _ _
  have q0 := ((one_new (.cells #[.int .i64 0, .string ⟨#[]⟩, .int .i64 0, .int .i64 0, .int .i64 0, .int .i64 0, .int .i64 0] 33)).cell (p := ⟨b, off + 0, none⟩) hb).trans (hc 0 (by omega))
  rw [Nat.add_zero] at q0
  rw [hk] at q0
  have hNm := fun w' (hbq : Below W.heap.size W w') => numberAt_any b off c n 1 (bs.getD 1 0) (bs.getD 2 0) w' (by omega) (by omega) ((hbq.cell (p := ⟨b, off + 1, none⟩) (Nat.lt_of_lt_of_le hb hBW.size)).trans ((hBW.cell (p := ⟨b, off + 1, none⟩) hb).trans (hc 1 (by omega)))) ((hbq.cell (p := ⟨b, off + 2, none⟩) (Nat.lt_of_lt_of_le hb hBW.size)).trans ((hBW.cell (p := ⟨b, off + 2, none⟩) hb).trans (hc 2 (by omega)))) (hB.at (by omega)) (hB.at (by omega))
  have eN : 256 * bs.getD 1 0 + bs.getD 2 0 = rdN bs 1 := rfl
  rw [eN] at hNm
  rw [rdOpn_cp (by omega) hk]
  rw [← hn] at h3 ⊢
  have h3i : ¬ ((n : Nat) : Int) < 3 := by omega
  have h0i : ¬ ((n : Nat) : Int) = 0 := by omega
  generalize rdN bs 1 = nm at *
  have HW : Hid (((w.alloc (.cells #[.int .i64 0, .string ⟨#[]⟩, .int .i64 0, .int .i64 0, .int .i64 0, .int .i64 0, .int .i64 0] 33)).alloc (.cells #[.int .i64 3, .string ⟨#[]⟩, .int .i64 0, .int .i64 0, .int .i64 0, .int .i64 0, .int .i64 0] 33)) = W) := hW.symm
  have HBW : Hid (Below w.heap.size w W) := hBW
  have HR : Hid (W.heap[w.heap.size]? = some (.cells #[.int .i64 0, .string ⟨#[]⟩, .int .i64 0, .int .i64 0, .int .i64 0, .int .i64 0, .int .i64 0] 33)) := hR
  have HX : Hid (W.heap[w.heap.size + 1]? = some (.cells #[.int .i64 3, .string ⟨#[]⟩, .int .i64 0, .int .i64 0, .int .i64 0, .int .i64 0, .int .i64 0] 33)) := hX
  have HL : Hid (w.heap.size + 1 < W.heap.size) := (Array.getElem?_eq_some_iff.1 hX).1
  clear hv hB hc hx hn hW hBW hR hX eN hk
  go_enter Try.func54, Try.ntmps54
  go_wp2_with fail
  rw [HW.out]
  refine (hNm _ (Below.refl _ _)).mono ?_
  rintro e w1 ⟨rfl, nd, hd1⟩
  have hb1 : Below W.heap.size W w1 := by rw [hd1]; exact below_drewN (Below.refl _ _) nd
  clear hd1 hNm HW q0
  have hx1 := (hb1.block _ HL.out).trans HX.out
  have hr1 := (hb1.block w.heap.size (by have := HL.out; omega)).trans HR.out
  obtain ⟨⟨y0, y1, y2, y3, y4, y5, y6⟩, g0, g1, g2, g3, g4, g5, g6⟩ := seven_cellsO hx1
  obtain ⟨W2, hW2⟩ : ∃ W2, W2 = w1.setCell ⟨w.heap.size + 1, 6, none⟩ (.int .i64 nm) := ⟨_, rfl⟩
  have hx2 := put_six7 hx1 (.int .i64 nm)
  rw [← hW2] at hx2
  have hr2 : W2.heap[w.heap.size]? = some (.cells #[.int .i64 0, .string ⟨#[]⟩, .int .i64 0, .int .i64 0, .int .i64 0, .int .i64 0, .int .i64 0] 33) := by rw [hW2]; exact (heap_setCell_other w1 ⟨w.heap.size + 1, 6, none⟩ _ _ (by show w.heap.size ≠ w.heap.size + 1; omega)).trans hr1
  have HB2 : Hid (Below w.heap.size w W2) := (by rw [hW2]; exact (below_after_of HBW.out hb1).setCell (Nat.le_succ _) _ : Below w.heap.size w W2)
  have HW2 : Hid (w1.setCell ⟨w.heap.size + 1, 6, none⟩ (.int .i64 nm) = W2) := hW2.symm
  obtain ⟨⟨z0, z1, z2, z3, z4, z5, z6⟩, -⟩ := seven_cellsO hx2
  obtain ⟨⟨r0, r1, r2, r3, r4, r5, r6⟩, f0, f1, f2, f3, f4, f5, f6⟩ := seven_cellsO hr2
  clear hW2 hx2 hr2 hx1 hr1 hb1
  go_upto_region 12 with fail
  rw [HW2.out]
  clear HW2 y0 y1 y2 y3 y4 y5 y6 g0 g1 g2 g3 g4 g5 g6
  go_wp2
  refine bodyPost_ret (v := .agg #[.int .i64 3, .string ⟨#[]⟩, .int .i64 0, .int .i64 0, .int .i64 0, .int .i64 0, .int .i64 nm]) (by simp [results, Try.results54, go_sem, r0, r1, r2, r3, r4, r5, r6]) rfl ⟨rfl, ?_⟩
  exact below_set7 HB2.out _ (Nat.le_refl _) _ _ _ _ _ _ _
set_option maxRecDepth 100000 in
set_option maxHeartbeats 2000000 in
theorem opOfBytes_upA (b off c : Nat) (bs : List Int) (w : World) (hv : OffB w (.slice (some ⟨b, off, none⟩) bs.length c) bs) (hB : Bts bs) (hx : bs.length ≤ 1048576) (h3 : 3 ≤ bs.length) (hk : bs.getD 0 0 = 1) (hc3 : ¬ c = 3) (rc : Int) (rl : ByteArray) (rv ro rp : Int) (hres : readV (bs.drop 3) = resV rc rl rv ro rp) :
    Calls Try.prog 54 #[.slice (some ⟨b, off, none⟩) bs.length c] w fun e w' => e = .returned (opV 1 rl rv ro rp (rdN bs 1) 0) ∧ Below w.heap.size w w' := by
  obtain ⟨-, b', off', e, hb, hc⟩ := hv.ints.at (by omega)
  cases e
  obtain ⟨n, hn⟩ : ∃ n, n = bs.length := ⟨_, rfl⟩
  have HN : Hid (n = bs.length) := hn
  obtain ⟨W, hW⟩ : ∃ W, W = ((w.alloc (.cells #[.int .i64 0, .string ⟨#[]⟩, .int .i64 0, .int .i64 0, .int .i64 0, .int .i64 0, .int .i64 0] 33)).alloc (.cells #[.int .i64 1, .string ⟨#[]⟩, .int .i64 0, .int .i64 0, .int .i64 0, .int .i64 0, .int .i64 0] 33)) := ⟨_, rfl⟩
  have hBW : Below w.heap.size w W := by rw [hW]; exact two_new _ _
  have hR : W.heap[w.heap.size]? = some (.cells #[.int .i64 0, .string ⟨#[]⟩, .int .i64 0, .int .i64 0, .int .i64 0, .int .i64 0, .int .i64 0] 33) := by rw [hW]; exact heap_alloc_old' _ _ _ (heap_alloc_new w _)
  have hX : W.heap[w.heap.size + 1]? = some (.cells #[.int .i64 1, .string ⟨#[]⟩, .int .i64 0, .int .i64 0, .int .i64 0, .int .i64 0, .int .i64 0] 33) := by rw [hW]; exact heap_new2 w _ _
  have q0 := ((one_new (.cells #[.int .i64 0, .string ⟨#[]⟩, .int .i64 0, .int .i64 0, .int .i64 0, .int .i64 0, .int .i64 0] 33)).cell (p := ⟨b, off + 0, none⟩) hb).trans (hc 0 (by omega))
  rw [Nat.add_zero] at q0
  rw [hk] at q0
  have hNm := fun w' (hbq : Below W.heap.size W w') => numberAt_any b off c n 1 (bs.getD 1 0) (bs.getD 2 0) w' (by omega) (by omega) ((hbq.cell (p := ⟨b, off + 1, none⟩) (Nat.lt_of_lt_of_le hb hBW.size)).trans ((hBW.cell (p := ⟨b, off + 1, none⟩) hb).trans (hc 1 (by omega)))) ((hbq.cell (p := ⟨b, off + 2, none⟩) (Nat.lt_of_lt_of_le hb hBW.size)).trans ((hBW.cell (p := ⟨b, off + 2, none⟩) hb).trans (hc 2 (by omega)))) (hB.at (by omega)) (hB.at (by omega))
  have eN : 256 * bs.getD 1 0 + bs.getD 2 0 = rdN bs 1 := rfl
  rw [eN] at hNm
  have hRd : ∀ w', Below w.heap.size w w' → Calls Try.prog 95 #[.slice (some ⟨b, off + 3, none⟩) (n - 3) (c - 3)] w' fun e w'' => e = .returned (resV rc rl rv ro rp) ∧ Below w'.heap.size w' w'' := fun w' hbq => by
    rw [← hres]
    exact implReadRecord_anyO _ (bs.drop 3) w' (by rw [hn]; exact (hv.drop3 h3).below hbq) (fun x hx => hB x (List.mem_of_mem_drop hx)) (by rw [List.length_drop]; omega)
  have hfl := fun w => fldRR1 rc rl rv ro rp w
  have hcn : bs.length ≤ c := by
    obtain ⟨⟨a, c', e, hcap⟩, -⟩ := hv
    cases e
    omega
  rw [← hn] at h3 hcn ⊢
  have h3i : ¬ ((n : Nat) : Int) < 3 := by omega
  have h0i : ¬ ((n : Nat) : Int) = 0 := by omega
  generalize rdN bs 1 = nm at *
  have HW : Hid (((w.alloc (.cells #[.int .i64 0, .string ⟨#[]⟩, .int .i64 0, .int .i64 0, .int .i64 0, .int .i64 0, .int .i64 0] 33)).alloc (.cells #[.int .i64 1, .string ⟨#[]⟩, .int .i64 0, .int .i64 0, .int .i64 0, .int .i64 0, .int .i64 0] 33)) = W) := hW.symm
  have HBW : Hid (Below w.heap.size w W) := hBW
  have HR : Hid (W.heap[w.heap.size]? = some (.cells #[.int .i64 0, .string ⟨#[]⟩, .int .i64 0, .int .i64 0, .int .i64 0, .int .i64 0, .int .i64 0] 33)) := hR
  have HX : Hid (W.heap[w.heap.size + 1]? = some (.cells #[.int .i64 1, .string ⟨#[]⟩, .int .i64 0, .int .i64 0, .int .i64 0, .int .i64 0, .int .i64 0] 33)) := hX
  have HL : Hid (w.heap.size + 1 < W.heap.size) := (Array.getElem?_eq_some_iff.1 hX).1
  unfold resV at hRd hfl
  unfold recV at hfl
  clear hv hB hc hx HN hn hW hBW hR hX eN hk hres
  go_enter Try.func54, Try.ntmps54
  go_wp2_with fail
  rw [HW.out]
  refine (hNm _ (Below.refl _ _)).mono ?_
  rintro e w1 ⟨rfl, nd, hd1⟩
  have hb1 : Below W.heap.size W w1 := by rw [hd1]; exact below_drewN (Below.refl _ _) nd
  clear hd1 hNm HW q0
  have hx1 := (hb1.block _ HL.out).trans HX.out
  have hr1 := (hb1.block w.heap.size (by have := HL.out; omega)).trans HR.out
  obtain ⟨⟨y0, y1, y2, y3, y4, y5, y6⟩, g0, g1, g2, g3, g4, g5, g6⟩ := seven_cellsO hx1
  obtain ⟨W2, hW2⟩ : ∃ W2, W2 = w1.setCell ⟨w.heap.size + 1, 5, none⟩ (.int .i64 nm) := ⟨_, rfl⟩
  have hx2 := put_five7 hx1 (.int .i64 nm)
  rw [← hW2] at hx2
  have hr2 : W2.heap[w.heap.size]? = some (.cells #[.int .i64 0, .string ⟨#[]⟩, .int .i64 0, .int .i64 0, .int .i64 0, .int .i64 0, .int .i64 0] 33) := by rw [hW2]; exact (heap_setCell_other w1 ⟨w.heap.size + 1, 5, none⟩ _ _ (by show w.heap.size ≠ w.heap.size + 1; omega)).trans hr1
  have HB2 : Hid (Below w.heap.size w W2) := (by rw [hW2]; exact (below_after_of HBW.out hb1).setCell (Nat.le_succ _) _ : Below w.heap.size w W2)
  have HW2 : Hid (w1.setCell ⟨w.heap.size + 1, 5, none⟩ (.int .i64 nm) = W2) := hW2.symm
  have hRd := hRd _ HB2.out
  clear hW2 hx1 hr1 hb1
  go_wp2_with fail
  rw [HW2.out]
  refine hRd.mono ?_
  rintro e w3 ⟨rfl, hb3⟩
  have hx3 := (hb3.block _ (Array.getElem?_eq_some_iff.1 hx2).1).trans hx2
  have hr3 := (hb3.block _ (Array.getElem?_eq_some_iff.1 hr2).1).trans hr2
  clear hRd HW2 hx2 hr2 y0 y1 y2 y3 y4 y5 y6 g0 g1 g2 g3 g4 g5 g6
  obtain ⟨⟨y0, y1, y2, y3, y4, y5, y6⟩, g0, g1, g2, g3, g4, g5, g6⟩ := seven_cellsO hx3
  obtain ⟨W4, hW4⟩ : ∃ W4, W4 = (((w3.setCell ⟨w.heap.size + 1, 1, none⟩ (.string rl)).setCell ⟨w.heap.size + 1, 2, none⟩ (.int .i64 rv)).setCell ⟨w.heap.size + 1, 3, none⟩ (.int .i64 ro)).setCell ⟨w.heap.size + 1, 4, none⟩ (.int .i64 rp) := ⟨_, rfl⟩
  have hx4 := put_rec7 hx3 (.string rl) (.int .i64 rv) (.int .i64 ro) (.int .i64 rp)
  rw [← hW4] at hx4
  have hr4 : W4.heap[w.heap.size]? = some (.cells #[.int .i64 0, .string ⟨#[]⟩, .int .i64 0, .int .i64 0, .int .i64 0, .int .i64 0, .int .i64 0] 33) := by rw [hW4]; exact (other_set4 (by omega) _ _ _ _).trans hr3
  have HB4 : Hid (Below w.heap.size w W4) := (by rw [hW4]; exact below_set4 (below_after_of HB2.out hb3) _ (Nat.le_succ _) _ _ _ _ : Below w.heap.size w W4)
  have HW4 : Hid ((((w3.setCell ⟨w.heap.size + 1, 1, none⟩ (.string rl)).setCell ⟨w.heap.size + 1, 2, none⟩ (.int .i64 rv)).setCell ⟨w.heap.size + 1, 3, none⟩ (.int .i64 ro)).setCell ⟨w.heap.size + 1, 4, none⟩ (.int .i64 rp) = W4) := hW4.symm
  obtain ⟨⟨z0, z1, z2, z3, z4, z5, z6⟩, -⟩ := seven_cellsO hx4
  obtain ⟨⟨r0, r1, r2, r3, r4, r5, r6⟩, f0, f1, f2, f3, f4, f5, f6⟩ := seven_cellsO hr4
  clear hW4 hx4 hr4 hx3 hr3 hb3
  go_upto_region 12 with fail
  rw [HW4.out]
  clear HW4 y0 y1 y2 y3 y4 y5 y6 g0 g1 g2 g3 g4 g5 g6
  go_wp2
  refine bodyPost_ret (v := .agg #[.int .i64 1, .string rl, .int .i64 rv, .int .i64 ro, .int .i64 rp, .int .i64 nm, .int .i64 0]) (by simp [results, Try.results54, go_sem, r0, r1, r2, r3, r4, r5, r6]) rfl ⟨rfl, ?_⟩
  exact below_set7 HB4.out _ (Nat.le_refl _) _ _ _ _ _ _ _
set_option maxRecDepth 100000 in
set_option maxHeartbeats 2000000 in
theorem opOfBytes_upB (b off c : Nat) (bs : List Int) (w : World) (hv : OffB w (.slice (some ⟨b, off, none⟩) bs.length c) bs) (hB : Bts bs) (hx : bs.length ≤ 1048576) (h3 : 3 ≤ bs.length) (hk : bs.getD 0 0 = 1) (hc3 : c = 3) (rc : Int) (rl : ByteArray) (rv ro rp : Int) (hres : readV (bs.drop 3) = resV rc rl rv ro rp) :
    Calls Try.prog 54 #[.slice (some ⟨b, off, none⟩) bs.length c] w fun e w' => e = .returned (opV 1 rl rv ro rp (rdN bs 1) 0) ∧ Below w.heap.size w w' := by
  obtain ⟨-, b', off', e, hb, hc⟩ := hv.ints.at (by omega)
  cases e
  obtain ⟨n, hn⟩ : ∃ n, n = bs.length := ⟨_, rfl⟩
  have HN : Hid (n = bs.length) := hn
  obtain ⟨W, hW⟩ : ∃ W, W = ((w.alloc (.cells #[.int .i64 0, .string ⟨#[]⟩, .int .i64 0, .int .i64 0, .int .i64 0, .int .i64 0, .int .i64 0] 33)).alloc (.cells #[.int .i64 1, .string ⟨#[]⟩, .int .i64 0, .int .i64 0, .int .i64 0, .int .i64 0, .int .i64 0] 33)) := ⟨_, rfl⟩
  have hBW : Below w.heap.size w W := by rw [hW]; exact two_new _ _
  have hR : W.heap[w.heap.size]? = some (.cells #[.int .i64 0, .string ⟨#[]⟩, .int .i64 0, .int .i64 0, .int .i64 0, .int .i64 0, .int .i64 0] 33) := by rw [hW]; exact heap_alloc_old' _ _ _ (heap_alloc_new w _)
  have hX : W.heap[w.heap.size + 1]? = some (.cells #[.int .i64 1, .string ⟨#[]⟩, .int .i64 0, .int .i64 0, .int .i64 0, .int .i64 0, .int .i64 0] 33) := by rw [hW]; exact heap_new2 w _ _
  have q0 := ((one_new (.cells #[.int .i64 0, .string ⟨#[]⟩, .int .i64 0, .int .i64 0, .int .i64 0, .int .i64 0, .int .i64 0] 33)).cell (p := ⟨b, off + 0, none⟩) hb).trans (hc 0 (by omega))
  rw [Nat.add_zero] at q0
  rw [hk] at q0
  have hNm := fun w' (hbq : Below W.heap.size W w') => numberAt_any b off c n 1 (bs.getD 1 0) (bs.getD 2 0) w' (by omega) (by omega) ((hbq.cell (p := ⟨b, off + 1, none⟩) (Nat.lt_of_lt_of_le hb hBW.size)).trans ((hBW.cell (p := ⟨b, off + 1, none⟩) hb).trans (hc 1 (by omega)))) ((hbq.cell (p := ⟨b, off + 2, none⟩) (Nat.lt_of_lt_of_le hb hBW.size)).trans ((hBW.cell (p := ⟨b, off + 2, none⟩) hb).trans (hc 2 (by omega)))) (hB.at (by omega)) (hB.at (by omega))
  have eN : 256 * bs.getD 1 0 + bs.getD 2 0 = rdN bs 1 := rfl
  rw [eN] at hNm
  have hRd : ∀ w', Below w.heap.size w w' → Calls Try.prog 95 #[.slice (some ⟨b, off, none⟩) 0 0] w' fun e w'' => e = .returned (resV rc rl rv ro rp) ∧ Below w'.heap.size w' w'' := fun w' hbq => by
    rw [← hres]
    exact implReadRecord_anyO _ (bs.drop 3) w' (by have e1 : bs.drop 3 = [] := List.drop_eq_nil_of_le (by obtain ⟨⟨a, c', e, hcap⟩, -⟩ := hv; cases e; omega); rw [e1]; exact ⟨⟨_, _, rfl, Nat.le_refl _⟩, Or.inl ⟨rfl, _, _, rfl⟩⟩) (fun x hx => hB x (List.mem_of_mem_drop hx)) (by rw [List.length_drop]; omega)
  have hfl := fun w => fldRR1 rc rl rv ro rp w
  have hcn : bs.length ≤ c := by
    obtain ⟨⟨a, c', e, hcap⟩, -⟩ := hv
    cases e
    omega
  rw [← hn] at h3 hcn ⊢
  have h3i : ¬ ((n : Nat) : Int) < 3 := by omega
  have h0i : ¬ ((n : Nat) : Int) = 0 := by omega
  generalize rdN bs 1 = nm at *
  have HW : Hid (((w.alloc (.cells #[.int .i64 0, .string ⟨#[]⟩, .int .i64 0, .int .i64 0, .int .i64 0, .int .i64 0, .int .i64 0] 33)).alloc (.cells #[.int .i64 1, .string ⟨#[]⟩, .int .i64 0, .int .i64 0, .int .i64 0, .int .i64 0, .int .i64 0] 33)) = W) := hW.symm
  have HBW : Hid (Below w.heap.size w W) := hBW
  have HR : Hid (W.heap[w.heap.size]? = some (.cells #[.int .i64 0, .string ⟨#[]⟩, .int .i64 0, .int .i64 0, .int .i64 0, .int .i64 0, .int .i64 0] 33)) := hR
  have HX : Hid (W.heap[w.heap.size + 1]? = some (.cells #[.int .i64 1, .string ⟨#[]⟩, .int .i64 0, .int .i64 0, .int .i64 0, .int .i64 0, .int .i64 0] 33)) := hX
  have HL : Hid (w.heap.size + 1 < W.heap.size) := (Array.getElem?_eq_some_iff.1 hX).1
  unfold resV at hRd hfl
  unfold recV at hfl
  have hn3 : n = 3 := by omega
  subst hn3 hc3
  clear hv hB hc hx HN hn hW hBW hR hX eN hk hres
  go_enter Try.func54, Try.ntmps54
  go_wp2_with fail
  rw [HW.out]
  refine (hNm _ (Below.refl _ _)).mono ?_
  rintro e w1 ⟨rfl, nd, hd1⟩
  have hb1 : Below W.heap.size W w1 := by rw [hd1]; exact below_drewN (Below.refl _ _) nd
  clear hd1 hNm HW q0
  have hx1 := (hb1.block _ HL.out).trans HX.out
  have hr1 := (hb1.block w.heap.size (by have := HL.out; omega)).trans HR.out
  obtain ⟨⟨y0, y1, y2, y3, y4, y5, y6⟩, g0, g1, g2, g3, g4, g5, g6⟩ := seven_cellsO hx1
  obtain ⟨W2, hW2⟩ : ∃ W2, W2 = w1.setCell ⟨w.heap.size + 1, 5, none⟩ (.int .i64 nm) := ⟨_, rfl⟩
  have hx2 := put_five7 hx1 (.int .i64 nm)
  rw [← hW2] at hx2
  have hr2 : W2.heap[w.heap.size]? = some (.cells #[.int .i64 0, .string ⟨#[]⟩, .int .i64 0, .int .i64 0, .int .i64 0, .int .i64 0, .int .i64 0] 33) := by rw [hW2]; exact (heap_setCell_other w1 ⟨w.heap.size + 1, 5, none⟩ _ _ (by show w.heap.size ≠ w.heap.size + 1; omega)).trans hr1
  have HB2 : Hid (Below w.heap.size w W2) := (by rw [hW2]; exact (below_after_of HBW.out hb1).setCell (Nat.le_succ _) _ : Below w.heap.size w W2)
  have HW2 : Hid (w1.setCell ⟨w.heap.size + 1, 5, none⟩ (.int .i64 nm) = W2) := hW2.symm
  have hRd := hRd _ HB2.out
  clear hW2 hx1 hr1 hb1
  go_wp2_with fail
  rw [HW2.out]
  refine hRd.mono ?_
  rintro e w3 ⟨rfl, hb3⟩
  have hx3 := (hb3.block _ (Array.getElem?_eq_some_iff.1 hx2).1).trans hx2
  have hr3 := (hb3.block _ (Array.getElem?_eq_some_iff.1 hr2).1).trans hr2
  clear hRd HW2 hx2 hr2 y0 y1 y2 y3 y4 y5 y6 g0 g1 g2 g3 g4 g5 g6
  obtain ⟨⟨y0, y1, y2, y3, y4, y5, y6⟩, g0, g1, g2, g3, g4, g5, g6⟩ := seven_cellsO hx3
  obtain ⟨W4, hW4⟩ : ∃ W4, W4 = (((w3.setCell ⟨w.heap.size + 1, 1, none⟩ (.string rl)).setCell ⟨w.heap.size + 1, 2, none⟩ (.int .i64 rv)).setCell ⟨w.heap.size + 1, 3, none⟩ (.int .i64 ro)).setCell ⟨w.heap.size + 1, 4, none⟩ (.int .i64 rp) := ⟨_, rfl⟩
  have hx4 := put_rec7 hx3 (.string rl) (.int .i64 rv) (.int .i64 ro) (.int .i64 rp)
  rw [← hW4] at hx4
  have hr4 : W4.heap[w.heap.size]? = some (.cells #[.int .i64 0, .string ⟨#[]⟩, .int .i64 0, .int .i64 0, .int .i64 0, .int .i64 0, .int .i64 0] 33) := by rw [hW4]; exact (other_set4 (by omega) _ _ _ _).trans hr3
  have HB4 : Hid (Below w.heap.size w W4) := (by rw [hW4]; exact below_set4 (below_after_of HB2.out hb3) _ (Nat.le_succ _) _ _ _ _ : Below w.heap.size w W4)
  have HW4 : Hid ((((w3.setCell ⟨w.heap.size + 1, 1, none⟩ (.string rl)).setCell ⟨w.heap.size + 1, 2, none⟩ (.int .i64 rv)).setCell ⟨w.heap.size + 1, 3, none⟩ (.int .i64 ro)).setCell ⟨w.heap.size + 1, 4, none⟩ (.int .i64 rp) = W4) := hW4.symm
  obtain ⟨⟨z0, z1, z2, z3, z4, z5, z6⟩, -⟩ := seven_cellsO hx4
  obtain ⟨⟨r0, r1, r2, r3, r4, r5, r6⟩, f0, f1, f2, f3, f4, f5, f6⟩ := seven_cellsO hr4
  clear hW4 hx4 hr4 hx3 hr3 hb3
  go_upto_region 12 with fail
  rw [HW4.out]
  clear HW4 y0 y1 y2 y3 y4 y5 y6 g0 g1 g2 g3 g4 g5 g6
  go_wp2
  refine bodyPost_ret (v := .agg #[.int .i64 1, .string rl, .int .i64 rv, .int .i64 ro, .int .i64 rp, .int .i64 nm, .int .i64 0]) (by simp [results, Try.results54, go_sem, r0, r1, r2, r3, r4, r5, r6]) rfl ⟨rfl, ?_⟩
  exact below_set7 HB4.out _ (Nat.le_refl _) _ _ _ _ _ _ _
theorem opOfBytes_any (v : Value) (bs : List Int) (w : World) (hv : OffB w v bs) (hB : Bts bs) (hx : bs.length ≤ 1048576) :
    Calls Try.prog 54 #[v] w fun e w' => e = .returned (opnV (rdOpn bs)) ∧ Below w.heap.size w w' := by
  by_cases h0 : 0 < bs.length
  · obtain ⟨b, off, c, rfl, hcap⟩ := hv.open h0
    by_cases h3 : bs.length < 3
    · exact opOfBytes_short b off c bs w hv hB hx h0 h3
    · by_cases h1 : bs.getD 0 0 = 1
      · have key : ∀ rc rl rv ro rp, readV (bs.drop 3) = resV rc rl rv ro rp → Calls Try.prog 54 #[.slice (some ⟨b, off, none⟩) bs.length c] w fun e w' => e = .returned (opV 1 rl rv ro rp (rdN bs 1) 0) ∧ Below w.heap.size w w' := fun rc rl rv ro rp hr => by
          by_cases hc3 : c = 3
          · exact opOfBytes_upB b off c bs w hv hB hx (by omega) h1 hc3 rc rl rv ro rp hr
          · exact opOfBytes_upA b off c bs w hv hB hx (by omega) h1 hc3 rc rl rv ro rp hr
        rcases Bool.eq_false_or_eq_true (rdB (bs.drop 3)) with h2 | h2
        · rw [rdOpn_up h3 h1 h2]
          exact key _ _ _ _ _ (by unfold readV; rw [if_pos h2])
        · rw [rdOpn_no h3 h1 h2]
          exact key 5 ⟨#[]⟩ 0 0 0 (by unfold readV; rw [h2]; rfl)
      · by_cases hk : bs.getD 0 0 = 3
        · exact opOfBytes_cp b off c bs w hv hB hx (by omega) hk
        · exact opOfBytes_one b off c bs w hv hB hx (by omega) h1 hk
  · have e1 : bs = [] := List.eq_nil_of_length_eq_zero (by omega)
    subst e1
    obtain ⟨a, c, rfl⟩ := hv.shape
    rw [rdOpn_short (by simp)]
    simp only [List.length_nil] at *
    clear hv hB hx h0
    go_enter Try.func54, Try.ntmps54
    go_wp2
    exact bodyPost_ret (v := .agg #[.int .i64 0, .string ⟨#[]⟩, .int .i64 0, .int .i64 0, .int .i64 0, .int .i64 0, .int .i64 0]) (by simp [results, Try.results54, go_sem]) rfl ⟨rfl, one_new _⟩
set_option maxRecDepth 100000 in
set_option maxHeartbeats 2000000 in
theorem implReadOp_any (v : Value) (bs : List Int) (w : World) (hv : OffB w v bs) (hB : Bts bs) (hx : bs.length ≤ 1048576) :
    Calls Try.prog 19 #[v] w fun e w' => e = .returned (rdoV bs) ∧ Below w.heap.size w w' := by
  obtain ⟨a, c0, rfl⟩ := hv.shape
  obtain ⟨W, hW⟩ : ∃ W, W = w.alloc (.cells #[.int .i64 0, .int .i64 0, .string ⟨#[]⟩, .int .i64 0, .int .i64 0, .int .i64 0, .int .i64 0, .int .i64 0] 39) := ⟨_, rfl⟩
  have hBW : Below w.heap.size w W := by rw [hW]; exact one_new _
  have HBW : Hid (Below w.heap.size w W) := hBW
  have HR : Hid (W.heap[w.heap.size]? = some (.cells #[.int .i64 0, .int .i64 0, .string ⟨#[]⟩, .int .i64 0, .int .i64 0, .int .i64 0, .int .i64 0, .int .i64 0] 39)) := (by rw [hW]; exact heap_alloc_new w _ : W.heap[w.heap.size]? = some (.cells #[.int .i64 0, .int .i64 0, .string ⟨#[]⟩, .int .i64 0, .int .i64 0, .int .i64 0, .int .i64 0, .int .i64 0] 39))
  have HL : Hid (w.heap.size < W.heap.size) := (Array.getElem?_eq_some_iff.1 HR.out).1
  have HW : Hid (w.alloc (.cells #[.int .i64 0, .int .i64 0, .string ⟨#[]⟩, .int .i64 0, .int .i64 0, .int .i64 0, .int .i64 0, .int .i64 0] 39) = W) := hW.symm
  have hO := opOfBytes_any _ bs W (hv.below hBW) hB hx
  have hs := rdOpn_size hx
  obtain ⟨k, l, vv, oo, pp, ss, nn, hxx⟩ : ∃ k l vv oo pp ss nn, rdOpn bs = ⟨k, l, vv, oo, pp, ss, nn⟩ := ⟨_, _, _, _, _, _, _, rfl⟩
  have hC : (rdOpn bs).c = opC k l vv oo pp ss nn := by rw [hxx]; rfl
  have hL : (rdOpn bs).L = opL k l vv oo pp ss nn := by rw [hxx]; rfl
  have hV : opnV (rdOpn bs) = opV k l vv oo pp ss nn := by rw [hxx]; rfl
  have hRV : ∀ c, oprnV c (rdOpn bs) = oprV c k l vv oo pp ss nn := fun c => by rw [hxx]; rfl
  rw [hxx] at hs
  rw [hV] at hO
  have hP := fun w => implPackOp_any k l vv oo pp ss nn w hs
  have HV : Hid (∀ w', Below w.heap.size w w' → Ints .u8 w' (.slice a bs.length c0) bs) := fun w' h => hv.ints.below h
  by_cases h0 : opC k l vv oo pp ss nn = 0
  · rw [opP_ok h0, h0] at hP
    have hE : ∀ u w', Ints .u8 w' u (opL k l vv oo pp ss nn) → Below w.heap.size w w' → Calls Try.prog 55 #[u, .slice a bs.length c0] w' fun e w'' => e = .returned (.bool (decide (opL k l vv oo pp ss nn = bs))) ∧ w'' = w' := fun u w' h1 h2 => bytesEqual_any u _ _ bs w' h1 (HV.out _ h2) (opL_bts h0) hB
    have hrT : decide (opL k l vv oo pp ss nn = bs) = true → rdoV bs = oprV 0 k l vv oo pp ss nn := fun h => by
      rw [decide_eq_true_iff] at h
      unfold rdoV
      rw [isB_t (hC.trans h0) (by rw [hL]; exact h.symm), if_pos rfl, hRV]
    have hrF : decide (opL k l vv oo pp ss nn = bs) = false → rdoV bs = oprV 5 0 ⟨#[]⟩ 0 0 0 0 0 := fun h => by
      rw [decide_eq_false_iff_not] at h
      unfold rdoV
      rw [isB_l (fun e => h (by rw [← hL]; exact e.symm))]
      rfl
    generalize decide (opL k l vv oo pp ss nn = bs) = q at *
    generalize opL k l vv oo pp ss nn = ys at *
    clear hL hC hV hRV hs h0 hxx hW HV hv hBW hB hx
    generalize bs.length = n at *
    cases q
    · have hr : rdoV bs = oprV 5 0 ⟨#[]⟩ 0 0 0 0 0 := hrF (by rfl)
      rw [hr]
      clear hr hrT hrF
      unfold opV at hO hP
      go_enter Try.func19, Try.ntmps19
      go_wp2_with fail
      rw [HW.out]
      refine hO.mono ?_
      rintro e w1 ⟨rfl, hb1⟩
      clear hO HW
      go_wp2_with fail
      refine (hP _).mono ?_
      intro e w2 h2
      obtain ⟨a2, c2, rfl, hb2, own2⟩ := h2.use
      have hb12 : Below W.heap.size W w2 := below_after_of hb1 (below_after hb2)
      have hX2 := (hb2.block _ (by simp)).trans (heap_alloc_new w1 (.cells #[.int .i64 k, .string l, .int .i64 vv, .int .i64 oo, .int .i64 pp, .int .i64 ss, .int .i64 nn] 33))
      clear hP h2
      have hb3 : Below W.heap.size W (w2.alloc (.cells #[.int .i64 0, .slice a2 ys.length c2] 29)) := below_after_of hb12 (one_new _)
      have hE := hE (.slice a2 ys.length c2) _ ((own_ints own2).below (one_new (.cells #[.int .i64 0, .slice a2 ys.length c2] 29))) (below_after_of HBW.out hb3)
      go_wp2_with fail
      refine hE.mono ?_
      rintro e w4 ⟨rfl, hw4⟩
      have hb4 : Below w.heap.size w w4 := by rw [hw4]; exact below_after_of HBW.out hb3
      have hX4 : w4.heap[w1.heap.size]? = some (.cells #[.int .i64 k, .string l, .int .i64 vv, .int .i64 oo, .int .i64 pp, .int .i64 ss, .int .i64 nn] 33) := by rw [hw4]; exact heap_alloc_old' _ _ _ hX2
      have hR4 : w4.heap[w.heap.size]? = some (.cells #[.int .i64 0, .int .i64 0, .string ⟨#[]⟩, .int .i64 0, .int .i64 0, .int .i64 0, .int .i64 0, .int .i64 0] 39) := by rw [hw4]; exact (hb3.block _ HL.out).trans HR.out
      clear hw4 hE own2 hb2 hb3 hX2 hb1 hb12
      obtain ⟨⟨x0, x1, x2, x3, x4, x5, x6⟩, -⟩ := seven_cellsO hX4
      obtain ⟨⟨r0, r1, r2, r3, r4, r5, r6, r7⟩, f0, f1, f2, f3, f4, f5, f6, f7⟩ := eight_cellsO hR4
      clear hX4 hR4
      go_wp2
      exact bodyPost_ret (v := .agg #[.int .i64 5, .int .i64 0, .string ⟨#[]⟩, .int .i64 0, .int .i64 0, .int .i64 0, .int .i64 0, .int .i64 0]) (by simp [results, Try.results19, go_sem, r0, r1, r2, r3, r4, r5, r6, r7]) rfl ⟨rfl, below_set8 hb4 _ (Nat.le_refl _) _ _ _ _ _ _ _ _⟩
    · have hr : rdoV bs = oprV 0 k l vv oo pp ss nn := hrT (by rfl)
      rw [hr]
      clear hr hrT hrF
      unfold opV at hO hP
      go_enter Try.func19, Try.ntmps19
      go_wp2_with fail
      rw [HW.out]
      refine hO.mono ?_
      rintro e w1 ⟨rfl, hb1⟩
      clear hO HW
      go_wp2_with fail
      refine (hP _).mono ?_
      intro e w2 h2
      obtain ⟨a2, c2, rfl, hb2, own2⟩ := h2.use
      have hb12 : Below W.heap.size W w2 := below_after_of hb1 (below_after hb2)
      have hX2 := (hb2.block _ (by simp)).trans (heap_alloc_new w1 (.cells #[.int .i64 k, .string l, .int .i64 vv, .int .i64 oo, .int .i64 pp, .int .i64 ss, .int .i64 nn] 33))
      clear hP h2
      have hb3 : Below W.heap.size W (w2.alloc (.cells #[.int .i64 0, .slice a2 ys.length c2] 29)) := below_after_of hb12 (one_new _)
      have hE := hE (.slice a2 ys.length c2) _ ((own_ints own2).below (one_new (.cells #[.int .i64 0, .slice a2 ys.length c2] 29))) (below_after_of HBW.out hb3)
      go_wp2_with fail
      refine hE.mono ?_
      rintro e w4 ⟨rfl, hw4⟩
      have hb4 : Below w.heap.size w w4 := by rw [hw4]; exact below_after_of HBW.out hb3
      have hX4 : w4.heap[w1.heap.size]? = some (.cells #[.int .i64 k, .string l, .int .i64 vv, .int .i64 oo, .int .i64 pp, .int .i64 ss, .int .i64 nn] 33) := by rw [hw4]; exact heap_alloc_old' _ _ _ hX2
      have hR4 : w4.heap[w.heap.size]? = some (.cells #[.int .i64 0, .int .i64 0, .string ⟨#[]⟩, .int .i64 0, .int .i64 0, .int .i64 0, .int .i64 0, .int .i64 0] 39) := by rw [hw4]; exact (hb3.block _ HL.out).trans HR.out
      clear hw4 hE own2 hb2 hb3 hX2 hb1 hb12
      obtain ⟨⟨x0, x1, x2, x3, x4, x5, x6⟩, -⟩ := seven_cellsO hX4
      obtain ⟨⟨r0, r1, r2, r3, r4, r5, r6, r7⟩, f0, f1, f2, f3, f4, f5, f6, f7⟩ := eight_cellsO hR4
      clear hX4 hR4
      go_wp2
      exact bodyPost_ret (v := .agg #[.int .i64 0, .int .i64 k, .string l, .int .i64 vv, .int .i64 oo, .int .i64 pp, .int .i64 ss, .int .i64 nn]) (by simp [results, Try.results19, go_sem, r0, r1, r2, r3, r4, r5, r6, r7]) rfl ⟨rfl, below_set8 hb4 _ (Nat.le_refl _) _ _ _ _ _ _ _ _⟩
  · have hr : rdoV bs = oprV 5 0 ⟨#[]⟩ 0 0 0 0 0 := by
      unfold rdoV
      rw [isB_c (by rw [hC]; exact h0)]
      rfl
    rw [hr]
    have h1 := code_ne h0
    rw [opP_no h0] at hP
    generalize opC k l vv oo pp ss nn = cd at *
    clear hL hC hV hRV hs h0 hxx hW HV hv hBW hB hx hr
    generalize bs.length = n at *
    unfold opV at hO hP
    go_enter Try.func19, Try.ntmps19
    go_wp2_with fail
    rw [HW.out]
    refine hO.mono ?_
    rintro e w1 ⟨rfl, hb1⟩
    clear hO HW
    go_wp2_with fail
    refine (hP _).mono ?_
    intro e w2 h2
    obtain ⟨a2, c2, rfl, hb2, own2⟩ := h2.use
    have hb12 : Below W.heap.size W w2 := below_after_of hb1 (below_after hb2)
    have hb4 : Below w.heap.size w (w2.alloc (.cells #[.int .i64 cd, .slice a2 0 c2] 29)) := below_after_of HBW.out (below_after_of hb12 (one_new _))
    have hR4 : (w2.alloc (.cells #[.int .i64 cd, .slice a2 0 c2] 29)).heap[w.heap.size]? = some (.cells #[.int .i64 0, .int .i64 0, .string ⟨#[]⟩, .int .i64 0, .int .i64 0, .int .i64 0, .int .i64 0, .int .i64 0] 39) := heap_alloc_old' _ _ _ ((hb12.block _ HL.out).trans HR.out)
    obtain ⟨⟨r0, r1, r2, r3, r4, r5, r6, r7⟩, f0, f1, f2, f3, f4, f5, f6, f7⟩ := eight_cellsO hR4
    clear hP h2 own2 hb2 hR4 hb1 hb12
    simp only [List.length_nil]
    go_wp2
    exact bodyPost_ret (v := .agg #[.int .i64 5, .int .i64 0, .string ⟨#[]⟩, .int .i64 0, .int .i64 0, .int .i64 0, .int .i64 0, .int .i64 0]) (by simp [results, Try.results19, go_sem, r0, r1, r2, r3, r4, r5, r6, r7]) rfl ⟨rfl, below_set8 hb4 _ (Nat.le_refl _) _ _ _ _ _ _ _ _⟩
end U
end Go.Proofs.Ytcdodpcdennemaa

/- Operations out of bytes: what the model reads. -/
namespace Go.Proofs.Ytcdodpcdennemaa
open Go.RowKit
namespace U
/-- What is read of bytes, and whether they are an operation's. -/
structure L12 (bs : List Int) (e : Ending) : Prop where
  ex : ∃ x : Opn, e = .returned (.tuple #[opnV x, .bool (isB bs)]) ∧ (isB bs = true → x = rdOpn bs)
theorem L12.of {bs : List Int} {e : Ending} {x : Opn} {q : Bool} (h : isB bs = q) (he : e = .returned (.tuple #[opnV x, .bool q])) (hq : q = true → x = rdOpn bs) : L12 bs e := ⟨⟨x, by rw [h]; exact he, fun h1 => hq (h.symm.trans h1)⟩⟩
theorem l3Read_both (bs : List Int) (hB : Bts bs) (hx : bs.length ≤ 1048576) : ∃ l n o p, (rdB bs = true → l = rdL bs ∧ n = rdN bs (2 + rdM bs) ∧ o = rdN bs (2 + rdM bs + 2) ∧ p = rdN bs (2 + rdM bs + 4)) ∧ l.size ≤ 1048576 ∧ ∀ v w, OffB w v bs → Calls Try.prog 93 #[v] w fun e w' => e = .returned (.tuple #[recV l n o p, .bool (rdB bs)]) ∧ Below w.heap.size w w' := by
  rcases Bool.eq_false_or_eq_true (shapeB bs) with hs | hs
  · refine ⟨_, _, _, _, fun _ => ⟨rfl, rfl, rfl, rfl⟩, Nat.le_trans (rdL_size bs) hx, fun v w hv => ?_⟩
    have e : rdB bs = (rdC bs == 0) := by unfold rdB; rw [hs]; rfl
    rw [e]
    exact l3Read_yesO v bs w hv hB hx hs
  · have e : rdB bs = false := by unfold rdB; rw [hs]; rfl
    rw [e]
    exact ⟨⟨#[]⟩, 0, 0, 0, (fun h => by cases h), Nat.zero_le _, fun v w hv => l3Read_noO v bs w hv hB hx hs⟩
theorem opAt_of {w : World} {g : Nat} {k : Int} {l : ByteArray} {v o p s n : Int} {t : TypeId} (h : w.heap[g]? = some (.cells #[.int .i64 k, .string l, .int .i64 v, .int .i64 o, .int .i64 p, .int .i64 s, .int .i64 n] t)) : OpAt w g k l v o p s n := by
  obtain ⟨⟨a0, a1, a2, a3, a4, a5, a6⟩, -⟩ := seven_cellsO h
  exact ⟨a0, a1, a2, a3, a4, a5, a6⟩
set_option maxRecDepth 100000 in
set_option maxHeartbeats 2000000 in
theorem l12Read_oth1 (b off c : Nat) (bs : List Int) (w : World) (hv : OffB w (.slice (some ⟨b, off, none⟩) bs.length c) bs) (hB : Bts bs) (_ : bs.length ≤ 1048576) (h0 : 0 < bs.length) (h1 : (bs.getD 0 0 = 1 ∧ ¬ 3 < bs.length) ∨ (¬ bs.getD 0 0 = 1 ∧ ¬ bs.getD 0 0 = 3)) (hn1 : bs.length = 1) :
    Calls Try.prog 53 #[.slice (some ⟨b, off, none⟩) bs.length c] w fun e w' => L12 bs e ∧ Below w.heap.size w w' := by
  obtain ⟨-, b', off', e, hb, hc⟩ := hv.ints.at (by omega)
  cases e
  obtain ⟨n, hn⟩ : ∃ n, n = bs.length := ⟨_, rfl⟩
  have HN : Hid (n = bs.length) := hn
  obtain ⟨W, hW⟩ : ∃ W, W = ((w.alloc (.cells #[.int .i64 0, .string ⟨#[]⟩, .int .i64 0, .int .i64 0, .int .i64 0, .int .i64 0, .int .i64 0] 33)).alloc (.cells #[.int .i64 (bs.getD 0 0), .string ⟨#[]⟩, .int .i64 0, .int .i64 0, .int .i64 0, .int .i64 0, .int .i64 0] 33)) := ⟨_, rfl⟩
  have hBW : Below w.heap.size w W := by rw [hW]; exact two_new _ _
  have hR : W.heap[w.heap.size]? = some (.cells #[.int .i64 0, .string ⟨#[]⟩, .int .i64 0, .int .i64 0, .int .i64 0, .int .i64 0, .int .i64 0] 33) := by rw [hW]; exact heap_alloc_old' _ _ _ (heap_alloc_new w _)
  have hX : W.heap[w.heap.size + 1]? = some (.cells #[.int .i64 (bs.getD 0 0), .string ⟨#[]⟩, .int .i64 0, .int .i64 0, .int .i64 0, .int .i64 0, .int .i64 0] 33) := by rw [hW]; exact heap_new2 w _ _
  have q0 := ((one_new (.cells #[.int .i64 0, .string ⟨#[]⟩, .int .i64 0, .int .i64 0, .int .i64 0, .int .i64 0, .int .i64 0] 33)).cell (p := ⟨b, off + 0, none⟩) hb).trans (hc 0 (by omega))
  rw [Nat.add_zero] at q0
  have hib : isB bs = (opC (bs.getD 0 0) ⟨#[]⟩ 0 0 0 0 0 == 0) := by
    rcases h1 with ⟨ha, hb'⟩ | ⟨ha, hb'⟩
    · rw [isB_1 hb' ha]
      rw [ha]
      have := op_nil1 0 0
      simp [this]
    · rw [isB_one h0 ha hb']
      rw [decide_eq_true hn1, Bool.true_and, rdOpn_short (by omega)]
      rfl
  have HIB : Hid (isB bs = (opC (bs.getD 0 0) ⟨#[]⟩ 0 0 0 0 0 == 0)) := hib
  have HQ : Hid ((opC (bs.getD 0 0) ⟨#[]⟩ 0 0 0 0 0 == 0) = true → opZ (bs.getD 0 0) = rdOpn bs) := fun _ => by rw [rdOpn_short (by omega)]
  have HF : Hid (∀ w', w'.heap[w.heap.size + 1]? = some (.cells #[.int .i64 (bs.getD 0 0), .string ⟨#[]⟩, .int .i64 0, .int .i64 0, .int .i64 0, .int .i64 0, .int .i64 0] 33) → Calls Try.prog 45 #[.pointer (some ⟨w.heap.size + 1, 0, none⟩)] w' fun e w'' => e = .returned (.int .i64 (opC (bs.getD 0 0) ⟨#[]⟩ 0 0 0 0 0)) ∧ Below w'.heap.size w' w'') := fun w' h => l12Fault_any _ (bs.getD 0 0) ⟨#[]⟩ 0 0 0 0 0 w' (opAt_of h) (Nat.zero_le _)
  have hk1 : bs.getD 0 0 = 1 → ¬ ((n : Nat) : Int) > 3 := fun h => by rcases h1 with ⟨_, hb'⟩ | ⟨ha, _⟩; omega; exact absurd h ha
  have hk3 : ¬ bs.getD 0 0 = 3 := by rcases h1 with ⟨ha, _⟩ | ⟨_, hb'⟩; omega; exact hb'
  have h0i : ¬ ((n : Nat) : Int) = 0 := by omega
  have h1i : (((n : Nat) : Int) == 1) = true := by simp; omega
  have hkb := hB.at (k := 0) (by omega)
  have hkw : IntKind.i64.wrap (bs.getD 0 0) = bs.getD 0 0 := by rw [IntKind.wrap_i64]; omega
  rw [← hn]
  generalize opC (bs.getD 0 0) ⟨#[]⟩ 0 0 0 0 0 = cq at *
  generalize hkk : bs.getD 0 0 = kk at *
  have HW : Hid (((w.alloc (.cells #[.int .i64 0, .string ⟨#[]⟩, .int .i64 0, .int .i64 0, .int .i64 0, .int .i64 0, .int .i64 0] 33)).alloc (.cells #[.int .i64 kk, .string ⟨#[]⟩, .int .i64 0, .int .i64 0, .int .i64 0, .int .i64 0, .int .i64 0] 33)) = W) := hW.symm
  have HBW : Hid (Below w.heap.size w W) := hBW
  have HR : Hid (W.heap[w.heap.size]? = some (.cells #[.int .i64 0, .string ⟨#[]⟩, .int .i64 0, .int .i64 0, .int .i64 0, .int .i64 0, .int .i64 0] 33)) := hR
  have HX : Hid (W.heap[w.heap.size + 1]? = some (.cells #[.int .i64 kk, .string ⟨#[]⟩, .int .i64 0, .int .i64 0, .int .i64 0, .int .i64 0, .int .i64 0] 33)) := hX
  have HL : Hid (w.heap.size + 1 < W.heap.size) := (Array.getElem?_eq_some_iff.1 hX).1
  have hcur : Below w.heap.size w W := hBW
  have HB0 : Hid (b < w.heap.size) := hb
  clear hv hB hc hn hn1 HN h1 h0 hib hkk
  by_cases hkq : kk = 1
  · subst hkq
    have h3i := hk1 rfl
    clear hk1 hk3
    go_enter Try.func53, Try.ntmps53
    go_upto_region 12 with fail
    rw [HW.out]
    obtain ⟨W4, hW4⟩ : ∃ W4, W4 = W := ⟨_, rfl⟩
    have hX4 := HX.out
    have hR4 := HR.out
    rw [← hW4] at hX4 hR4 hcur ⊢
    clear HW hW4 hW hBW hR hX HBW HR HX HL q0 hb
    refine wp_region_held_drew (S := fun w' => ∃ n : After w, w' = n.w) (by kernel_rfl) (after_mk hcur.drew) (fun hHeld => ?_)
    have hcur := hcur.drew
    have hXV : W4.drew.heap[w.heap.size + 1]? = some (.cells #[.int .i64 1, .string ⟨#[]⟩, .int .i64 0, .int .i64 0, .int .i64 0, .int .i64 0, .int .i64 0] 33) := hX4
    have hRV : W4.drew.heap[w.heap.size]? = some (.cells #[.int .i64 0, .string ⟨#[]⟩, .int .i64 0, .int .i64 0, .int .i64 0, .int .i64 0, .int .i64 0] 33) := hR4
    clear hX4 hR4
    generalize W4.drew = V0 at *
    refine h_take (i := 1) (d := (some 49)) (v := ?v1pa) (by rfl) (by kernel_rfl) (by kernel_rfl) (by kernel_rfl) (fun _ _ _ h => h) (by rfl) ?hy1pa hHeld ?rest1pa
    case hy1pa =>
      intro o ho
      simp only [List.getElem?_toArray, List.getElem?_cons_succ, List.getElem?_cons_zero, Option.some.injEq] at ho
      subst ho
      rintro _ ⟨nw, rfl⟩
      first | (go_simp; done) | (go_simp; with_reducible rfl)
    try simp only [Act.put, List.setIfInBounds_toArray, List.set_cons_zero, List.set_cons_succ]
    refine h_take (i := 2) (d := (some 50)) (v := ?v1pb) (by rfl) (by kernel_rfl) (by kernel_rfl) (by kernel_rfl) (fun _ _ _ h => h) (by rfl) ?hy1pb hHeld ?rest1pb
    case hy1pb =>
      intro o ho
      simp only [List.getElem?_toArray, List.getElem?_cons_succ, List.getElem?_cons_zero, Option.some.injEq] at ho
      subst ho
      rintro _ ⟨nw, rfl⟩
      first | (go_simp; done) | (go_simp; with_reducible rfl)
    try simp only [Act.put, List.setIfInBounds_toArray, List.set_cons_zero, List.set_cons_succ]
    refine wpAnyH_ready (rs := [0, 3]) (by kernel_rfl) (by simp) ?_
    refine AllReadyH.cons rfl (fun K hK => ?_) (AllReadyH.cons rfl (fun K hK => ?_) AllReadyH.nil)
    · obtain ⟨⟨z0, z1, z2, z3, z4, z5, z6⟩, -⟩ := seven_cellsO hXV
      go_simp
      refine hK.out _ _ (after_mk hcur) (fun hHeld => ?_)
      clear hK K
      try simp only [Act.put, List.setIfInBounds_toArray, List.set_cons_zero, List.set_cons_succ]
      clear z0 z1 z2 z3 z4 z5 z6
      refine wpAnyH_ready (rs := [3]) (by kernel_rfl) (by simp) ?_
      refine AllReadyH.cons rfl (fun K hK => ?_) AllReadyH.nil
      have hF := HF.out V0 hXV
      go_simp
      refine hF.mono ?_
      rintro e w5 ⟨rfl, hb5⟩
      have hXV := (hb5.block _ (Array.getElem?_eq_some_iff.1 hXV).1).trans hXV
      have hRV := (hb5.block _ (Array.getElem?_eq_some_iff.1 hRV).1).trans hRV
      have hcur := below_after_of hcur hb5
      clear hb5 hF
      refine hK.out _ _ (after_mk hcur) (fun hHeld => ?_)
      clear hK K
      try simp only [Act.put, List.setIfInBounds_toArray, List.set_cons_zero, List.set_cons_succ]
      refine h_take (i := 4) (d := (some 52)) (v := ?v1pe) (by rfl) (by kernel_rfl) (by kernel_rfl) (by kernel_rfl) (fun _ _ _ h => h) (by rfl) ?hy1pe hHeld ?rest1pe
      case hy1pe =>
        intro o ho
        simp only [List.getElem?_toArray, List.getElem?_cons_succ, List.getElem?_cons_zero, Option.some.injEq] at ho
        subst ho
        rintro _ ⟨nw, rfl⟩
        first | (go_simp; done) | (go_simp; with_reducible rfl)
      try simp only [Act.put, List.setIfInBounds_toArray, List.set_cons_zero, List.set_cons_succ]
      refine h_take (i := 5) (d := (some 53)) (v := ?v1pf) (by rfl) (by kernel_rfl) (by kernel_rfl) (by kernel_rfl) (fun _ _ _ h => h) (by rfl) ?hy1pf hHeld ?rest1pf
      case hy1pf =>
        intro o ho
        simp only [List.getElem?_toArray, List.getElem?_cons_succ, List.getElem?_cons_zero, Option.some.injEq] at ho
        subst ho
        rintro _ ⟨nw, rfl⟩
        first | (go_simp; done) | (go_simp; with_reducible rfl)
      try simp only [Act.put, List.setIfInBounds_toArray, List.set_cons_zero, List.set_cons_succ]
      refine wpAnyH_ready (rs := [6]) (by kernel_rfl) (by simp) ?_
      refine AllReadyH.cons rfl (fun K hK => ?_) AllReadyH.nil
      obtain ⟨⟨r0, r1, r2, r3, r4, r5, r6⟩, f0, f1, f2, f3, f4, f5, f6⟩ := seven_cellsO hRV
      go_simp
      have hcur := below_set7 hcur w.heap.size (Nat.le_refl _) (.int .i64 1) (.string ⟨#[]⟩) (.int .i64 0) (.int .i64 0) (.int .i64 0) (.int .i64 0) (.int .i64 0)
      refine hK.out _ _ (after_mk hcur) (fun hHeld => ?_)
      clear hK K
      try simp only [Act.put, List.setIfInBounds_toArray, List.set_cons_zero, List.set_cons_succ]
      refine h_take (i := 7) (d := (some 3)) (v := ?v1pg) (by rfl) (by kernel_rfl) (by kernel_rfl) (by kernel_rfl) (fun _ _ _ h => h) (by rfl) ?hy1pg hHeld ?rest1pg
      case hy1pg =>
        intro o ho
        simp only [List.getElem?_toArray, List.getElem?_cons_succ, List.getElem?_cons_zero, Option.some.injEq] at ho
        subst ho
        rintro _ ⟨nw, rfl⟩
        first | (go_simp; done) | (go_simp; with_reducible rfl)
      try simp only [Act.put, List.setIfInBounds_toArray, List.set_cons_zero, List.set_cons_succ]
      refine wpAnyH_done (by kernel_rfl) ?_ _
      go_wp2
      exact bodyPost_ret (v := .tuple #[.agg #[.int .i64 1, .string ⟨#[]⟩, .int .i64 0, .int .i64 0, .int .i64 0, .int .i64 0, .int .i64 0], .bool (cq == 0)]) (by simp [results, Try.results53, go_sem, r0, r1, r2, r3, r4, r5, r6]) rfl ⟨L12.of HIB.out rfl HQ.out, hcur⟩
    · have hF := HF.out V0 hXV
      go_simp
      refine hF.mono ?_
      rintro e w5 ⟨rfl, hb5⟩
      have hXV := (hb5.block _ (Array.getElem?_eq_some_iff.1 hXV).1).trans hXV
      have hRV := (hb5.block _ (Array.getElem?_eq_some_iff.1 hRV).1).trans hRV
      have hcur := below_after_of hcur hb5
      clear hb5 hF
      refine hK.out _ _ (after_mk hcur) (fun hHeld => ?_)
      clear hK K
      try simp only [Act.put, List.setIfInBounds_toArray, List.set_cons_zero, List.set_cons_succ]
      refine h_take (i := 4) (d := (some 52)) (v := ?v1ph) (by rfl) (by kernel_rfl) (by kernel_rfl) (by kernel_rfl) (fun _ _ _ h => h) (by rfl) ?hy1ph hHeld ?rest1ph
      case hy1ph =>
        intro o ho
        simp only [List.getElem?_toArray, List.getElem?_cons_succ, List.getElem?_cons_zero, Option.some.injEq] at ho
        subst ho
        rintro _ ⟨nw, rfl⟩
        first | (go_simp; done) | (go_simp; with_reducible rfl)
      try simp only [Act.put, List.setIfInBounds_toArray, List.set_cons_zero, List.set_cons_succ]
      refine h_take (i := 5) (d := (some 53)) (v := ?v1pi) (by rfl) (by kernel_rfl) (by kernel_rfl) (by kernel_rfl) (fun _ _ _ h => h) (by rfl) ?hy1pi hHeld ?rest1pi
      case hy1pi =>
        intro o ho
        simp only [List.getElem?_toArray, List.getElem?_cons_succ, List.getElem?_cons_zero, Option.some.injEq] at ho
        subst ho
        rintro _ ⟨nw, rfl⟩
        first | (go_simp; done) | (go_simp; with_reducible rfl)
      try simp only [Act.put, List.setIfInBounds_toArray, List.set_cons_zero, List.set_cons_succ]
      refine wpAnyH_ready (rs := [0]) (by kernel_rfl) (by simp) ?_
      refine AllReadyH.cons rfl (fun K hK => ?_) AllReadyH.nil
      obtain ⟨⟨z0, z1, z2, z3, z4, z5, z6⟩, -⟩ := seven_cellsO hXV
      go_simp
      refine hK.out _ _ (after_mk hcur) (fun hHeld => ?_)
      clear hK K
      try simp only [Act.put, List.setIfInBounds_toArray, List.set_cons_zero, List.set_cons_succ]
      clear z0 z1 z2 z3 z4 z5 z6
      refine wpAnyH_ready (rs := [6]) (by kernel_rfl) (by simp) ?_
      refine AllReadyH.cons rfl (fun K hK => ?_) AllReadyH.nil
      obtain ⟨⟨r0, r1, r2, r3, r4, r5, r6⟩, f0, f1, f2, f3, f4, f5, f6⟩ := seven_cellsO hRV
      go_simp
      have hcur := below_set7 hcur w.heap.size (Nat.le_refl _) (.int .i64 1) (.string ⟨#[]⟩) (.int .i64 0) (.int .i64 0) (.int .i64 0) (.int .i64 0) (.int .i64 0)
      refine hK.out _ _ (after_mk hcur) (fun hHeld => ?_)
      clear hK K
      try simp only [Act.put, List.setIfInBounds_toArray, List.set_cons_zero, List.set_cons_succ]
      refine h_take (i := 7) (d := (some 3)) (v := ?v1pj) (by rfl) (by kernel_rfl) (by kernel_rfl) (by kernel_rfl) (fun _ _ _ h => h) (by rfl) ?hy1pj hHeld ?rest1pj
      case hy1pj =>
        intro o ho
        simp only [List.getElem?_toArray, List.getElem?_cons_succ, List.getElem?_cons_zero, Option.some.injEq] at ho
        subst ho
        rintro _ ⟨nw, rfl⟩
        first | (go_simp; done) | (go_simp; with_reducible rfl)
      try simp only [Act.put, List.setIfInBounds_toArray, List.set_cons_zero, List.set_cons_succ]
      refine wpAnyH_done (by kernel_rfl) ?_ _
      go_wp2
      exact bodyPost_ret (v := .tuple #[.agg #[.int .i64 1, .string ⟨#[]⟩, .int .i64 0, .int .i64 0, .int .i64 0, .int .i64 0, .int .i64 0], .bool (cq == 0)]) (by simp [results, Try.results53, go_sem, r0, r1, r2, r3, r4, r5, r6]) rfl ⟨L12.of HIB.out rfl HQ.out, hcur⟩
  · clear hk1
    go_enter Try.func53, Try.ntmps53
    go_upto_region 12 with fail
    rw [HW.out]
    obtain ⟨W4, hW4⟩ : ∃ W4, W4 = W := ⟨_, rfl⟩
    have hX4 := HX.out
    have hR4 := HR.out
    rw [← hW4] at hX4 hR4 hcur ⊢
    clear HW hW4 hW hBW hR hX HBW HR HX HL q0 hb
    refine wp_region_held_drew (S := fun w' => ∃ n : After w, w' = n.w) (by kernel_rfl) (after_mk hcur.drew) (fun hHeld => ?_)
    have hcur := hcur.drew
    have hXV : W4.drew.heap[w.heap.size + 1]? = some (.cells #[.int .i64 kk, .string ⟨#[]⟩, .int .i64 0, .int .i64 0, .int .i64 0, .int .i64 0, .int .i64 0] 33) := hX4
    have hRV : W4.drew.heap[w.heap.size]? = some (.cells #[.int .i64 0, .string ⟨#[]⟩, .int .i64 0, .int .i64 0, .int .i64 0, .int .i64 0, .int .i64 0] 33) := hR4
    clear hX4 hR4
    generalize W4.drew = V0 at *
    refine h_take (i := 1) (d := (some 49)) (v := ?v1qa) (by rfl) (by kernel_rfl) (by kernel_rfl) (by kernel_rfl) (fun _ _ _ h => h) (by rfl) ?hy1qa hHeld ?rest1qa
    case hy1qa =>
      intro o ho
      simp only [List.getElem?_toArray, List.getElem?_cons_succ, List.getElem?_cons_zero, Option.some.injEq] at ho
      subst ho
      rintro _ ⟨nw, rfl⟩
      first | (go_simp; done) | (go_simp; with_reducible rfl)
    try simp only [Act.put, List.setIfInBounds_toArray, List.set_cons_zero, List.set_cons_succ]
    refine h_take (i := 2) (d := (some 50)) (v := ?v1qb) (by rfl) (by kernel_rfl) (by kernel_rfl) (by kernel_rfl) (fun _ _ _ h => h) (by rfl) ?hy1qb hHeld ?rest1qb
    case hy1qb =>
      intro o ho
      simp only [List.getElem?_toArray, List.getElem?_cons_succ, List.getElem?_cons_zero, Option.some.injEq] at ho
      subst ho
      rintro _ ⟨nw, rfl⟩
      first | (go_simp; done) | (go_simp; with_reducible rfl)
    try simp only [Act.put, List.setIfInBounds_toArray, List.set_cons_zero, List.set_cons_succ]
    refine wpAnyH_ready (rs := [0, 3]) (by kernel_rfl) (by simp) ?_
    refine AllReadyH.cons rfl (fun K hK => ?_) (AllReadyH.cons rfl (fun K hK => ?_) AllReadyH.nil)
    · obtain ⟨⟨z0, z1, z2, z3, z4, z5, z6⟩, -⟩ := seven_cellsO hXV
      go_simp
      refine hK.out _ _ (after_mk hcur) (fun hHeld => ?_)
      clear hK K
      try simp only [Act.put, List.setIfInBounds_toArray, List.set_cons_zero, List.set_cons_succ]
      clear z0 z1 z2 z3 z4 z5 z6
      refine wpAnyH_ready (rs := [3]) (by kernel_rfl) (by simp) ?_
      refine AllReadyH.cons rfl (fun K hK => ?_) AllReadyH.nil
      have hF := HF.out V0 hXV
      go_simp
      refine hF.mono ?_
      rintro e w5 ⟨rfl, hb5⟩
      have hXV := (hb5.block _ (Array.getElem?_eq_some_iff.1 hXV).1).trans hXV
      have hRV := (hb5.block _ (Array.getElem?_eq_some_iff.1 hRV).1).trans hRV
      have hcur := below_after_of hcur hb5
      clear hb5 hF
      refine hK.out _ _ (after_mk hcur) (fun hHeld => ?_)
      clear hK K
      try simp only [Act.put, List.setIfInBounds_toArray, List.set_cons_zero, List.set_cons_succ]
      refine h_take (i := 4) (d := (some 52)) (v := ?v1qe) (by rfl) (by kernel_rfl) (by kernel_rfl) (by kernel_rfl) (fun _ _ _ h => h) (by rfl) ?hy1qe hHeld ?rest1qe
      case hy1qe =>
        intro o ho
        simp only [List.getElem?_toArray, List.getElem?_cons_succ, List.getElem?_cons_zero, Option.some.injEq] at ho
        subst ho
        rintro _ ⟨nw, rfl⟩
        first | (go_simp; done) | (go_simp; with_reducible rfl)
      try simp only [Act.put, List.setIfInBounds_toArray, List.set_cons_zero, List.set_cons_succ]
      refine h_take (i := 5) (d := (some 53)) (v := ?v1qf) (by rfl) (by kernel_rfl) (by kernel_rfl) (by kernel_rfl) (fun _ _ _ h => h) (by rfl) ?hy1qf hHeld ?rest1qf
      case hy1qf =>
        intro o ho
        simp only [List.getElem?_toArray, List.getElem?_cons_succ, List.getElem?_cons_zero, Option.some.injEq] at ho
        subst ho
        rintro _ ⟨nw, rfl⟩
        first | (go_simp; done) | (go_simp; with_reducible rfl)
      try simp only [Act.put, List.setIfInBounds_toArray, List.set_cons_zero, List.set_cons_succ]
      refine wpAnyH_ready (rs := [6]) (by kernel_rfl) (by simp) ?_
      refine AllReadyH.cons rfl (fun K hK => ?_) AllReadyH.nil
      obtain ⟨⟨r0, r1, r2, r3, r4, r5, r6⟩, f0, f1, f2, f3, f4, f5, f6⟩ := seven_cellsO hRV
      go_simp
      have hcur := below_set7 hcur w.heap.size (Nat.le_refl _) (.int .i64 kk) (.string ⟨#[]⟩) (.int .i64 0) (.int .i64 0) (.int .i64 0) (.int .i64 0) (.int .i64 0)
      refine hK.out _ _ (after_mk hcur) (fun hHeld => ?_)
      clear hK K
      try simp only [Act.put, List.setIfInBounds_toArray, List.set_cons_zero, List.set_cons_succ]
      refine h_take (i := 7) (d := (some 3)) (v := ?v1qg) (by rfl) (by kernel_rfl) (by kernel_rfl) (by kernel_rfl) (fun _ _ _ h => h) (by rfl) ?hy1qg hHeld ?rest1qg
      case hy1qg =>
        intro o ho
        simp only [List.getElem?_toArray, List.getElem?_cons_succ, List.getElem?_cons_zero, Option.some.injEq] at ho
        subst ho
        rintro _ ⟨nw, rfl⟩
        first | (go_simp; done) | (go_simp; with_reducible rfl)
      try simp only [Act.put, List.setIfInBounds_toArray, List.set_cons_zero, List.set_cons_succ]
      refine wpAnyH_done (by kernel_rfl) ?_ _
      go_wp2
      exact bodyPost_ret (v := .tuple #[.agg #[.int .i64 kk, .string ⟨#[]⟩, .int .i64 0, .int .i64 0, .int .i64 0, .int .i64 0, .int .i64 0], .bool (cq == 0)]) (by simp [results, Try.results53, go_sem, r0, r1, r2, r3, r4, r5, r6]) rfl ⟨L12.of HIB.out rfl HQ.out, hcur⟩
    · have hF := HF.out V0 hXV
      go_simp
      refine hF.mono ?_
      rintro e w5 ⟨rfl, hb5⟩
      have hXV := (hb5.block _ (Array.getElem?_eq_some_iff.1 hXV).1).trans hXV
      have hRV := (hb5.block _ (Array.getElem?_eq_some_iff.1 hRV).1).trans hRV
      have hcur := below_after_of hcur hb5
      clear hb5 hF
      refine hK.out _ _ (after_mk hcur) (fun hHeld => ?_)
      clear hK K
      try simp only [Act.put, List.setIfInBounds_toArray, List.set_cons_zero, List.set_cons_succ]
      refine h_take (i := 4) (d := (some 52)) (v := ?v1qh) (by rfl) (by kernel_rfl) (by kernel_rfl) (by kernel_rfl) (fun _ _ _ h => h) (by rfl) ?hy1qh hHeld ?rest1qh
      case hy1qh =>
        intro o ho
        simp only [List.getElem?_toArray, List.getElem?_cons_succ, List.getElem?_cons_zero, Option.some.injEq] at ho
        subst ho
        rintro _ ⟨nw, rfl⟩
        first | (go_simp; done) | (go_simp; with_reducible rfl)
      try simp only [Act.put, List.setIfInBounds_toArray, List.set_cons_zero, List.set_cons_succ]
      refine h_take (i := 5) (d := (some 53)) (v := ?v1qi) (by rfl) (by kernel_rfl) (by kernel_rfl) (by kernel_rfl) (fun _ _ _ h => h) (by rfl) ?hy1qi hHeld ?rest1qi
      case hy1qi =>
        intro o ho
        simp only [List.getElem?_toArray, List.getElem?_cons_succ, List.getElem?_cons_zero, Option.some.injEq] at ho
        subst ho
        rintro _ ⟨nw, rfl⟩
        first | (go_simp; done) | (go_simp; with_reducible rfl)
      try simp only [Act.put, List.setIfInBounds_toArray, List.set_cons_zero, List.set_cons_succ]
      refine wpAnyH_ready (rs := [0]) (by kernel_rfl) (by simp) ?_
      refine AllReadyH.cons rfl (fun K hK => ?_) AllReadyH.nil
      obtain ⟨⟨z0, z1, z2, z3, z4, z5, z6⟩, -⟩ := seven_cellsO hXV
      go_simp
      refine hK.out _ _ (after_mk hcur) (fun hHeld => ?_)
      clear hK K
      try simp only [Act.put, List.setIfInBounds_toArray, List.set_cons_zero, List.set_cons_succ]
      clear z0 z1 z2 z3 z4 z5 z6
      refine wpAnyH_ready (rs := [6]) (by kernel_rfl) (by simp) ?_
      refine AllReadyH.cons rfl (fun K hK => ?_) AllReadyH.nil
      obtain ⟨⟨r0, r1, r2, r3, r4, r5, r6⟩, f0, f1, f2, f3, f4, f5, f6⟩ := seven_cellsO hRV
      go_simp
      have hcur := below_set7 hcur w.heap.size (Nat.le_refl _) (.int .i64 kk) (.string ⟨#[]⟩) (.int .i64 0) (.int .i64 0) (.int .i64 0) (.int .i64 0) (.int .i64 0)
      refine hK.out _ _ (after_mk hcur) (fun hHeld => ?_)
      clear hK K
      try simp only [Act.put, List.setIfInBounds_toArray, List.set_cons_zero, List.set_cons_succ]
      refine h_take (i := 7) (d := (some 3)) (v := ?v1qj) (by rfl) (by kernel_rfl) (by kernel_rfl) (by kernel_rfl) (fun _ _ _ h => h) (by rfl) ?hy1qj hHeld ?rest1qj
      case hy1qj =>
        intro o ho
        simp only [List.getElem?_toArray, List.getElem?_cons_succ, List.getElem?_cons_zero, Option.some.injEq] at ho
        subst ho
        rintro _ ⟨nw, rfl⟩
        first | (go_simp; done) | (go_simp; with_reducible rfl)
      try simp only [Act.put, List.setIfInBounds_toArray, List.set_cons_zero, List.set_cons_succ]
      refine wpAnyH_done (by kernel_rfl) ?_ _
      go_wp2
      exact bodyPost_ret (v := .tuple #[.agg #[.int .i64 kk, .string ⟨#[]⟩, .int .i64 0, .int .i64 0, .int .i64 0, .int .i64 0, .int .i64 0], .bool (cq == 0)]) (by simp [results, Try.results53, go_sem, r0, r1, r2, r3, r4, r5, r6]) rfl ⟨L12.of HIB.out rfl HQ.out, hcur⟩
set_option maxRecDepth 100000 in
set_option maxHeartbeats 2000000 in
theorem l12Read_oth0 (b off c : Nat) (bs : List Int) (w : World) (hv : OffB w (.slice (some ⟨b, off, none⟩) bs.length c) bs) (hB : Bts bs) (_ : bs.length ≤ 1048576) (h0 : 0 < bs.length) (h1 : (bs.getD 0 0 = 1 ∧ ¬ 3 < bs.length) ∨ (¬ bs.getD 0 0 = 1 ∧ ¬ bs.getD 0 0 = 3)) (hn1 : ¬ bs.length = 1) :
    Calls Try.prog 53 #[.slice (some ⟨b, off, none⟩) bs.length c] w fun e w' => L12 bs e ∧ Below w.heap.size w w' := by
  obtain ⟨-, b', off', e, hb, hc⟩ := hv.ints.at (by omega)
  cases e
  obtain ⟨n, hn⟩ : ∃ n, n = bs.length := ⟨_, rfl⟩
  have HN : Hid (n = bs.length) := hn
  obtain ⟨W, hW⟩ : ∃ W, W = ((w.alloc (.cells #[.int .i64 0, .string ⟨#[]⟩, .int .i64 0, .int .i64 0, .int .i64 0, .int .i64 0, .int .i64 0] 33)).alloc (.cells #[.int .i64 (bs.getD 0 0), .string ⟨#[]⟩, .int .i64 0, .int .i64 0, .int .i64 0, .int .i64 0, .int .i64 0] 33)) := ⟨_, rfl⟩
  have hBW : Below w.heap.size w W := by rw [hW]; exact two_new _ _
  have hR : W.heap[w.heap.size]? = some (.cells #[.int .i64 0, .string ⟨#[]⟩, .int .i64 0, .int .i64 0, .int .i64 0, .int .i64 0, .int .i64 0] 33) := by rw [hW]; exact heap_alloc_old' _ _ _ (heap_alloc_new w _)
  have hX : W.heap[w.heap.size + 1]? = some (.cells #[.int .i64 (bs.getD 0 0), .string ⟨#[]⟩, .int .i64 0, .int .i64 0, .int .i64 0, .int .i64 0, .int .i64 0] 33) := by rw [hW]; exact heap_new2 w _ _
  have q0 := ((one_new (.cells #[.int .i64 0, .string ⟨#[]⟩, .int .i64 0, .int .i64 0, .int .i64 0, .int .i64 0, .int .i64 0] 33)).cell (p := ⟨b, off + 0, none⟩) hb).trans (hc 0 (by omega))
  rw [Nat.add_zero] at q0
  have hib : isB bs = false := by
    rcases h1 with ⟨ha, hb'⟩ | ⟨ha, hb'⟩
    · rw [isB_1 hb' ha]
    · rw [isB_one h0 ha hb']
      rw [decide_eq_false hn1, Bool.false_and]
  have HIB : Hid (isB bs = false) := hib
  have HQ : Hid (false = true → opZ (bs.getD 0 0) = rdOpn bs) := fun h => by cases h
  have hk1 : bs.getD 0 0 = 1 → ¬ ((n : Nat) : Int) > 3 := fun h => by rcases h1 with ⟨_, hb'⟩ | ⟨ha, _⟩; omega; exact absurd h ha
  have hk3 : ¬ bs.getD 0 0 = 3 := by rcases h1 with ⟨ha, _⟩ | ⟨_, hb'⟩; omega; exact hb'
  have h0i : ¬ ((n : Nat) : Int) = 0 := by omega
  have h1i : (((n : Nat) : Int) == 1) = false := by simp; omega
  have hkb := hB.at (k := 0) (by omega)
  have hkw : IntKind.i64.wrap (bs.getD 0 0) = bs.getD 0 0 := by rw [IntKind.wrap_i64]; omega
  rw [← hn]
  generalize hkk : bs.getD 0 0 = kk at *
  have HW : Hid (((w.alloc (.cells #[.int .i64 0, .string ⟨#[]⟩, .int .i64 0, .int .i64 0, .int .i64 0, .int .i64 0, .int .i64 0] 33)).alloc (.cells #[.int .i64 kk, .string ⟨#[]⟩, .int .i64 0, .int .i64 0, .int .i64 0, .int .i64 0, .int .i64 0] 33)) = W) := hW.symm
  have HBW : Hid (Below w.heap.size w W) := hBW
  have HR : Hid (W.heap[w.heap.size]? = some (.cells #[.int .i64 0, .string ⟨#[]⟩, .int .i64 0, .int .i64 0, .int .i64 0, .int .i64 0, .int .i64 0] 33)) := hR
  have HX : Hid (W.heap[w.heap.size + 1]? = some (.cells #[.int .i64 kk, .string ⟨#[]⟩, .int .i64 0, .int .i64 0, .int .i64 0, .int .i64 0, .int .i64 0] 33)) := hX
  have HL : Hid (w.heap.size + 1 < W.heap.size) := (Array.getElem?_eq_some_iff.1 hX).1
  have hcur : Below w.heap.size w W := hBW
  have HB0 : Hid (b < w.heap.size) := hb
  clear hv hB hc hn hn1 HN h1 h0 hib hkk
  by_cases hkq : kk = 1
  · subst hkq
    have h3i := hk1 rfl
    clear hk1 hk3
    go_enter Try.func53, Try.ntmps53
    go_upto_region 12 with fail
    rw [HW.out]
    obtain ⟨W4, hW4⟩ : ∃ W4, W4 = W := ⟨_, rfl⟩
    have hX4 := HX.out
    have hR4 := HR.out
    rw [← hW4] at hX4 hR4 hcur ⊢
    clear HW hW4 hW hBW hR hX HBW HR HX HL q0 hb
    refine wp_region_held_drew (S := fun w' => ∃ n : After w, w' = n.w) (by kernel_rfl) (after_mk hcur.drew) (fun hHeld => ?_)
    have hcur := hcur.drew
    have hXV : W4.drew.heap[w.heap.size + 1]? = some (.cells #[.int .i64 1, .string ⟨#[]⟩, .int .i64 0, .int .i64 0, .int .i64 0, .int .i64 0, .int .i64 0] 33) := hX4
    have hRV : W4.drew.heap[w.heap.size]? = some (.cells #[.int .i64 0, .string ⟨#[]⟩, .int .i64 0, .int .i64 0, .int .i64 0, .int .i64 0, .int .i64 0] 33) := hR4
    clear hX4 hR4
    generalize W4.drew = V0 at *
    refine h_take (i := 1) (d := (some 49)) (v := ?v0pa) (by rfl) (by kernel_rfl) (by kernel_rfl) (by kernel_rfl) (fun _ _ _ h => h) (by rfl) ?hy0pa hHeld ?rest0pa
    case hy0pa =>
      intro o ho
      simp only [List.getElem?_toArray, List.getElem?_cons_succ, List.getElem?_cons_zero, Option.some.injEq] at ho
      subst ho
      rintro _ ⟨nw, rfl⟩
      first | (go_simp; done) | (go_simp; with_reducible rfl)
    try simp only [Act.put, List.setIfInBounds_toArray, List.set_cons_zero, List.set_cons_succ]
    refine h_take (i := 2) (d := (some 50)) (v := ?v0pb) (by rfl) (by kernel_rfl) (by kernel_rfl) (by kernel_rfl) (fun _ _ _ h => h) (by rfl) ?hy0pb hHeld ?rest0pb
    case hy0pb =>
      intro o ho
      simp only [List.getElem?_toArray, List.getElem?_cons_succ, List.getElem?_cons_zero, Option.some.injEq] at ho
      subst ho
      rintro _ ⟨nw, rfl⟩
      first | (go_simp; done) | (go_simp; with_reducible rfl)
    try simp only [Act.put, List.setIfInBounds_toArray, List.set_cons_zero, List.set_cons_succ]
    refine h_skip (i := 3) (d := (some 51)) (by rfl) (by kernel_rfl) (by kernel_rfl) (by kernel_rfl) (fun _ _ _ h => h) (by rfl) hHeld ?_
    try simp only [Act.put, List.setIfInBounds_toArray, List.set_cons_zero, List.set_cons_succ]
    refine h_skip (i := 4) (d := (some 52)) (by rfl) (by kernel_rfl) (by kernel_rfl) (by kernel_rfl) (fun _ _ _ h => h) (by rfl) hHeld ?_
    try simp only [Act.put, List.setIfInBounds_toArray, List.set_cons_zero, List.set_cons_succ]
    refine h_take (i := 5) (d := (some 53)) (v := ?v0pc) (by rfl) (by kernel_rfl) (by kernel_rfl) (by kernel_rfl) (fun _ _ _ h => h) (by rfl) ?hy0pc hHeld ?rest0pc
    case hy0pc =>
      intro o ho
      simp only [List.getElem?_toArray, List.getElem?_cons_succ, List.getElem?_cons_zero, Option.some.injEq] at ho
      subst ho
      rintro _ ⟨nw, rfl⟩
      first | (go_simp; done) | (go_simp; with_reducible rfl)
    try simp only [Act.put, List.setIfInBounds_toArray, List.set_cons_zero, List.set_cons_succ]
    refine wpAnyH_ready (rs := [0]) (by kernel_rfl) (by simp) ?_
    refine AllReadyH.cons rfl (fun K hK => ?_) AllReadyH.nil
    obtain ⟨⟨z0, z1, z2, z3, z4, z5, z6⟩, -⟩ := seven_cellsO hXV
    go_simp
    refine hK.out _ _ (after_mk hcur) (fun hHeld => ?_)
    clear hK K
    try simp only [Act.put, List.setIfInBounds_toArray, List.set_cons_zero, List.set_cons_succ]
    clear z0 z1 z2 z3 z4 z5 z6
    refine wpAnyH_ready (rs := [6]) (by kernel_rfl) (by simp) ?_
    refine AllReadyH.cons rfl (fun K hK => ?_) AllReadyH.nil
    obtain ⟨⟨r0, r1, r2, r3, r4, r5, r6⟩, f0, f1, f2, f3, f4, f5, f6⟩ := seven_cellsO hRV
    go_simp
    have hcur := below_set7 hcur w.heap.size (Nat.le_refl _) (.int .i64 1) (.string ⟨#[]⟩) (.int .i64 0) (.int .i64 0) (.int .i64 0) (.int .i64 0) (.int .i64 0)
    refine hK.out _ _ (after_mk hcur) (fun hHeld => ?_)
    clear hK K
    try simp only [Act.put, List.setIfInBounds_toArray, List.set_cons_zero, List.set_cons_succ]
    refine h_take (i := 7) (d := (some 3)) (v := ?v0pd) (by rfl) (by kernel_rfl) (by kernel_rfl) (by kernel_rfl) (fun _ _ _ h => h) (by rfl) ?hy0pd hHeld ?rest0pd
    case hy0pd =>
      intro o ho
      simp only [List.getElem?_toArray, List.getElem?_cons_succ, List.getElem?_cons_zero, Option.some.injEq] at ho
      subst ho
      rintro _ ⟨nw, rfl⟩
      first | (go_simp; done) | (go_simp; with_reducible rfl)
    try simp only [Act.put, List.setIfInBounds_toArray, List.set_cons_zero, List.set_cons_succ]
    refine wpAnyH_done (by kernel_rfl) ?_ _
    go_wp2
    exact bodyPost_ret (v := .tuple #[.agg #[.int .i64 1, .string ⟨#[]⟩, .int .i64 0, .int .i64 0, .int .i64 0, .int .i64 0, .int .i64 0], .bool false]) (by simp [results, Try.results53, go_sem, r0, r1, r2, r3, r4, r5, r6]) rfl ⟨L12.of HIB.out rfl HQ.out, hcur⟩
  · clear hk1
    go_enter Try.func53, Try.ntmps53
    go_upto_region 12 with fail
    rw [HW.out]
    obtain ⟨W4, hW4⟩ : ∃ W4, W4 = W := ⟨_, rfl⟩
    have hX4 := HX.out
    have hR4 := HR.out
    rw [← hW4] at hX4 hR4 hcur ⊢
    clear HW hW4 hW hBW hR hX HBW HR HX HL q0 hb
    refine wp_region_held_drew (S := fun w' => ∃ n : After w, w' = n.w) (by kernel_rfl) (after_mk hcur.drew) (fun hHeld => ?_)
    have hcur := hcur.drew
    have hXV : W4.drew.heap[w.heap.size + 1]? = some (.cells #[.int .i64 kk, .string ⟨#[]⟩, .int .i64 0, .int .i64 0, .int .i64 0, .int .i64 0, .int .i64 0] 33) := hX4
    have hRV : W4.drew.heap[w.heap.size]? = some (.cells #[.int .i64 0, .string ⟨#[]⟩, .int .i64 0, .int .i64 0, .int .i64 0, .int .i64 0, .int .i64 0] 33) := hR4
    clear hX4 hR4
    generalize W4.drew = V0 at *
    refine h_take (i := 1) (d := (some 49)) (v := ?v0qa) (by rfl) (by kernel_rfl) (by kernel_rfl) (by kernel_rfl) (fun _ _ _ h => h) (by rfl) ?hy0qa hHeld ?rest0qa
    case hy0qa =>
      intro o ho
      simp only [List.getElem?_toArray, List.getElem?_cons_succ, List.getElem?_cons_zero, Option.some.injEq] at ho
      subst ho
      rintro _ ⟨nw, rfl⟩
      first | (go_simp; done) | (go_simp; with_reducible rfl)
    try simp only [Act.put, List.setIfInBounds_toArray, List.set_cons_zero, List.set_cons_succ]
    refine h_take (i := 2) (d := (some 50)) (v := ?v0qb) (by rfl) (by kernel_rfl) (by kernel_rfl) (by kernel_rfl) (fun _ _ _ h => h) (by rfl) ?hy0qb hHeld ?rest0qb
    case hy0qb =>
      intro o ho
      simp only [List.getElem?_toArray, List.getElem?_cons_succ, List.getElem?_cons_zero, Option.some.injEq] at ho
      subst ho
      rintro _ ⟨nw, rfl⟩
      first | (go_simp; done) | (go_simp; with_reducible rfl)
    try simp only [Act.put, List.setIfInBounds_toArray, List.set_cons_zero, List.set_cons_succ]
    refine h_skip (i := 3) (d := (some 51)) (by rfl) (by kernel_rfl) (by kernel_rfl) (by kernel_rfl) (fun _ _ _ h => h) (by rfl) hHeld ?_
    try simp only [Act.put, List.setIfInBounds_toArray, List.set_cons_zero, List.set_cons_succ]
    refine h_skip (i := 4) (d := (some 52)) (by rfl) (by kernel_rfl) (by kernel_rfl) (by kernel_rfl) (fun _ _ _ h => h) (by rfl) hHeld ?_
    try simp only [Act.put, List.setIfInBounds_toArray, List.set_cons_zero, List.set_cons_succ]
    refine h_take (i := 5) (d := (some 53)) (v := ?v0qc) (by rfl) (by kernel_rfl) (by kernel_rfl) (by kernel_rfl) (fun _ _ _ h => h) (by rfl) ?hy0qc hHeld ?rest0qc
    case hy0qc =>
      intro o ho
      simp only [List.getElem?_toArray, List.getElem?_cons_succ, List.getElem?_cons_zero, Option.some.injEq] at ho
      subst ho
      rintro _ ⟨nw, rfl⟩
      first | (go_simp; done) | (go_simp; with_reducible rfl)
    try simp only [Act.put, List.setIfInBounds_toArray, List.set_cons_zero, List.set_cons_succ]
    refine wpAnyH_ready (rs := [0]) (by kernel_rfl) (by simp) ?_
    refine AllReadyH.cons rfl (fun K hK => ?_) AllReadyH.nil
    obtain ⟨⟨z0, z1, z2, z3, z4, z5, z6⟩, -⟩ := seven_cellsO hXV
    go_simp
    refine hK.out _ _ (after_mk hcur) (fun hHeld => ?_)
    clear hK K
    try simp only [Act.put, List.setIfInBounds_toArray, List.set_cons_zero, List.set_cons_succ]
    clear z0 z1 z2 z3 z4 z5 z6
    refine wpAnyH_ready (rs := [6]) (by kernel_rfl) (by simp) ?_
    refine AllReadyH.cons rfl (fun K hK => ?_) AllReadyH.nil
    obtain ⟨⟨r0, r1, r2, r3, r4, r5, r6⟩, f0, f1, f2, f3, f4, f5, f6⟩ := seven_cellsO hRV
    go_simp
    have hcur := below_set7 hcur w.heap.size (Nat.le_refl _) (.int .i64 kk) (.string ⟨#[]⟩) (.int .i64 0) (.int .i64 0) (.int .i64 0) (.int .i64 0) (.int .i64 0)
    refine hK.out _ _ (after_mk hcur) (fun hHeld => ?_)
    clear hK K
    try simp only [Act.put, List.setIfInBounds_toArray, List.set_cons_zero, List.set_cons_succ]
    refine h_take (i := 7) (d := (some 3)) (v := ?v0qd) (by rfl) (by kernel_rfl) (by kernel_rfl) (by kernel_rfl) (fun _ _ _ h => h) (by rfl) ?hy0qd hHeld ?rest0qd
    case hy0qd =>
      intro o ho
      simp only [List.getElem?_toArray, List.getElem?_cons_succ, List.getElem?_cons_zero, Option.some.injEq] at ho
      subst ho
      rintro _ ⟨nw, rfl⟩
      first | (go_simp; done) | (go_simp; with_reducible rfl)
    try simp only [Act.put, List.setIfInBounds_toArray, List.set_cons_zero, List.set_cons_succ]
    refine wpAnyH_done (by kernel_rfl) ?_ _
    go_wp2
    exact bodyPost_ret (v := .tuple #[.agg #[.int .i64 kk, .string ⟨#[]⟩, .int .i64 0, .int .i64 0, .int .i64 0, .int .i64 0, .int .i64 0], .bool false]) (by simp [results, Try.results53, go_sem, r0, r1, r2, r3, r4, r5, r6]) rfl ⟨L12.of HIB.out rfl HQ.out, hcur⟩
set_option maxRecDepth 100000 in
set_option maxHeartbeats 2000000 in
theorem l12Read_cp1 (b off c : Nat) (bs : List Int) (w : World) (hv : OffB w (.slice (some ⟨b, off, none⟩) bs.length c) bs) (hB : Bts bs) (_ : bs.length ≤ 1048576) (h0 : 0 < bs.length) (hk : bs.getD 0 0 = 3) (hn3 : bs.length = 3) :
    Calls Try.prog 53 #[.slice (some ⟨b, off, none⟩) bs.length c] w fun e w' => L12 bs e ∧ Below w.heap.size w w' := by
  obtain ⟨-, b', off', e, hb, hc⟩ := hv.ints.at (by omega)
  cases e
  obtain ⟨n, hn⟩ : ∃ n, n = bs.length := ⟨_, rfl⟩
  have HN : Hid (n = bs.length) := hn
  obtain ⟨W, hW⟩ : ∃ W, W = ((w.alloc (.cells #[.int .i64 0, .string ⟨#[]⟩, .int .i64 0, .int .i64 0, .int .i64 0, .int .i64 0, .int .i64 0] 33)).alloc (.cells #[.int .i64 3, .string ⟨#[]⟩, .int .i64 0, .int .i64 0, .int .i64 0, .int .i64 0, .int .i64 0] 33)) := ⟨_, rfl⟩
  have hBW : Below w.heap.size w W := by rw [hW]; exact two_new _ _
  have hR : W.heap[w.heap.size]? = some (.cells #[.int .i64 0, .string ⟨#[]⟩, .int .i64 0, .int .i64 0, .int .i64 0, .int .i64 0, .int .i64 0] 33) := by rw [hW]; exact heap_alloc_old' _ _ _ (heap_alloc_new w _)
  have hX : W.heap[w.heap.size + 1]? = some (.cells #[.int .i64 3, .string ⟨#[]⟩, .int .i64 0, .int .i64 0, .int .i64 0, .int .i64 0, .int .i64 0] 33) := by rw [hW]; exact heap_new2 w _ _
  have q0 := ((one_new (.cells #[.int .i64 0, .string ⟨#[]⟩, .int .i64 0, .int .i64 0, .int .i64 0, .int .i64 0, .int .i64 0] 33)).cell (p := ⟨b, off + 0, none⟩) hb).trans (hc 0 (by omega))
  rw [Nat.add_zero] at q0
  rw [hk] at q0
  have hNm := fun w' (hbq : Below W.heap.size W w') => l3Two_any b off c n 1 (bs.getD 1 0) (bs.getD 2 0) w' (by omega) (by omega) ((hbq.cell (p := ⟨b, off + 1, none⟩) (Nat.lt_of_lt_of_le hb hBW.size)).trans ((hBW.cell (p := ⟨b, off + 1, none⟩) hb).trans (hc 1 (by omega)))) ((hbq.cell (p := ⟨b, off + 2, none⟩) (Nat.lt_of_lt_of_le hb hBW.size)).trans ((hBW.cell (p := ⟨b, off + 2, none⟩) hb).trans (hc 2 (by omega)))) (hB.at (by omega)) (hB.at (by omega))
  have eN : 256 * bs.getD 1 0 + bs.getD 2 0 = rdN bs 1 := rfl
  rw [eN] at hNm
  obtain ⟨hi1, hi2⟩ := isB_3 hB hn3 hk
  have HIB : Hid (isB bs = (opC 3 ⟨#[]⟩ 0 0 0 0 (rdN bs 1) == 0)) := (by rw [hi1, hi2]; rfl : isB bs = (opC 3 ⟨#[]⟩ 0 0 0 0 (rdN bs 1) == 0))
  have HQ : Hid ((opC 3 ⟨#[]⟩ 0 0 0 0 (rdN bs 1) == 0) = true → (⟨3, ⟨#[]⟩, 0, 0, 0, 0, rdN bs 1⟩ : Opn) = rdOpn bs) := fun _ => hi2.symm
  clear hi1 hi2
  generalize rdN bs 1 = nm at *
  have HF : Hid (∀ w', w'.heap[w.heap.size + 1]? = some (.cells #[.int .i64 3, .string ⟨#[]⟩, .int .i64 0, .int .i64 0, .int .i64 0, .int .i64 0, .int .i64 nm] 33) → Calls Try.prog 45 #[.pointer (some ⟨w.heap.size + 1, 0, none⟩)] w' fun e w'' => e = .returned (.int .i64 (opC 3 ⟨#[]⟩ 0 0 0 0 nm)) ∧ Below w'.heap.size w' w'') := fun w' h => l12Fault_any _ 3 ⟨#[]⟩ 0 0 0 0 nm w' (opAt_of h) (Nat.zero_le _)
  generalize opC 3 ⟨#[]⟩ 0 0 0 0 nm = cq at *
  have h0i : ¬ ((n : Nat) : Int) = 0 := by omega
  have h3i : (((n : Nat) : Int) == 3) = true := by simp; omega
  rw [← hn]
  have HW : Hid (((w.alloc (.cells #[.int .i64 0, .string ⟨#[]⟩, .int .i64 0, .int .i64 0, .int .i64 0, .int .i64 0, .int .i64 0] 33)).alloc (.cells #[.int .i64 3, .string ⟨#[]⟩, .int .i64 0, .int .i64 0, .int .i64 0, .int .i64 0, .int .i64 0] 33)) = W) := hW.symm
  have HBW : Hid (Below w.heap.size w W) := hBW
  have HR : Hid (W.heap[w.heap.size]? = some (.cells #[.int .i64 0, .string ⟨#[]⟩, .int .i64 0, .int .i64 0, .int .i64 0, .int .i64 0, .int .i64 0] 33)) := hR
  have HX : Hid (W.heap[w.heap.size + 1]? = some (.cells #[.int .i64 3, .string ⟨#[]⟩, .int .i64 0, .int .i64 0, .int .i64 0, .int .i64 0, .int .i64 0] 33)) := hX
  have HL : Hid (w.heap.size + 1 < W.heap.size) := (Array.getElem?_eq_some_iff.1 hX).1
  have hcur : Below w.heap.size w W := hBW
  clear hv hB hc hn hn3 HN h0 hk eN
  go_enter Try.func53, Try.ntmps53
  go_wp2_with fail
  rw [HW.out]
  refine (hNm _ (Below.refl _ _)).mono ?_
  rintro e w1 ⟨rfl, nd, hd1⟩
  have hb1 : Below W.heap.size W w1 := by rw [hd1]; exact below_drewN (Below.refl _ _) nd
  clear hd1 hNm HW q0 hW hBW hR hX
  have hx1 := (hb1.block _ HL.out).trans HX.out
  have hr1 := (hb1.block w.heap.size (by have := HL.out; omega)).trans HR.out
  obtain ⟨⟨y0, y1, y2, y3, y4, y5, y6⟩, g0, g1, g2, g3, g4, g5, g6⟩ := seven_cellsO hx1
  obtain ⟨W4, hW4⟩ : ∃ W4, W4 = w1.setCell ⟨w.heap.size + 1, 6, none⟩ (.int .i64 nm) := ⟨_, rfl⟩
  have hX4 := put_six7 hx1 (.int .i64 nm)
  rw [← hW4] at hX4
  have hR4 : W4.heap[w.heap.size]? = some (.cells #[.int .i64 0, .string ⟨#[]⟩, .int .i64 0, .int .i64 0, .int .i64 0, .int .i64 0, .int .i64 0] 33) := by rw [hW4]; exact (heap_setCell_other w1 ⟨w.heap.size + 1, 6, none⟩ _ _ (by show w.heap.size ≠ w.heap.size + 1; omega)).trans hr1
  have hcur : Below w.heap.size w W4 := by rw [hW4]; exact (below_after_of HBW.out hb1).setCell (Nat.le_succ _) _
  have HW4 : Hid (w1.setCell ⟨w.heap.size + 1, 6, none⟩ (.int .i64 nm) = W4) := hW4.symm
  clear hW4 hx1 hr1 hb1
  go_upto_region 12 with fail
  rw [HW4.out]
  clear HW4 y0 y1 y2 y3 y4 y5 y6 g0 g1 g2 g3 g4 g5 g6 HBW HR HX HL hb
  refine wp_region_held_drew (S := fun w' => ∃ n : After w, w' = n.w) (by kernel_rfl) (after_mk hcur.drew) (fun hHeld => ?_)
  have hcur := hcur.drew
  have hXV : W4.drew.heap[w.heap.size + 1]? = some (.cells #[.int .i64 3, .string ⟨#[]⟩, .int .i64 0, .int .i64 0, .int .i64 0, .int .i64 0, .int .i64 nm] 33) := hX4
  have hRV : W4.drew.heap[w.heap.size]? = some (.cells #[.int .i64 0, .string ⟨#[]⟩, .int .i64 0, .int .i64 0, .int .i64 0, .int .i64 0, .int .i64 0] 33) := hR4
  clear hX4 hR4
  generalize W4.drew = V0 at *
  refine h_take (i := 1) (d := (some 49)) (v := ?vcpoa) (by rfl) (by kernel_rfl) (by kernel_rfl) (by kernel_rfl) (fun _ _ _ h => h) (by rfl) ?hycpoa hHeld ?restcpoa
  case hycpoa =>
    intro o ho
    simp only [List.getElem?_toArray, List.getElem?_cons_succ, List.getElem?_cons_zero, Option.some.injEq] at ho
    subst ho
    rintro _ ⟨nw, rfl⟩
    first | (go_simp; done) | (go_simp; with_reducible rfl)
  try simp only [Act.put, List.setIfInBounds_toArray, List.set_cons_zero, List.set_cons_succ]
  refine h_take (i := 2) (d := (some 50)) (v := ?vcpob) (by rfl) (by kernel_rfl) (by kernel_rfl) (by kernel_rfl) (fun _ _ _ h => h) (by rfl) ?hycpob hHeld ?restcpob
  case hycpob =>
    intro o ho
    simp only [List.getElem?_toArray, List.getElem?_cons_succ, List.getElem?_cons_zero, Option.some.injEq] at ho
    subst ho
    rintro _ ⟨nw, rfl⟩
    first | (go_simp; done) | (go_simp; with_reducible rfl)
  try simp only [Act.put, List.setIfInBounds_toArray, List.set_cons_zero, List.set_cons_succ]
  refine wpAnyH_ready (rs := [0, 3]) (by kernel_rfl) (by simp) ?_
  refine AllReadyH.cons rfl (fun K hK => ?_) (AllReadyH.cons rfl (fun K hK => ?_) AllReadyH.nil)
  · obtain ⟨⟨z0, z1, z2, z3, z4, z5, z6⟩, -⟩ := seven_cellsO hXV
    go_simp
    refine hK.out _ _ (after_mk hcur) (fun hHeld => ?_)
    clear hK K
    try simp only [Act.put, List.setIfInBounds_toArray, List.set_cons_zero, List.set_cons_succ]
    clear z0 z1 z2 z3 z4 z5 z6
    refine wpAnyH_ready (rs := [3]) (by kernel_rfl) (by simp) ?_
    refine AllReadyH.cons rfl (fun K hK => ?_) AllReadyH.nil
    have hF := HF.out V0 hXV
    go_simp
    refine hF.mono ?_
    rintro e w5 ⟨rfl, hb5⟩
    have hXV := (hb5.block _ (Array.getElem?_eq_some_iff.1 hXV).1).trans hXV
    have hRV := (hb5.block _ (Array.getElem?_eq_some_iff.1 hRV).1).trans hRV
    have hcur := below_after_of hcur hb5
    clear hb5 hF
    refine hK.out _ _ (after_mk hcur) (fun hHeld => ?_)
    clear hK K
    try simp only [Act.put, List.setIfInBounds_toArray, List.set_cons_zero, List.set_cons_succ]
    refine h_take (i := 4) (d := (some 52)) (v := ?vcpoe) (by rfl) (by kernel_rfl) (by kernel_rfl) (by kernel_rfl) (fun _ _ _ h => h) (by rfl) ?hycpoe hHeld ?restcpoe
    case hycpoe =>
      intro o ho
      simp only [List.getElem?_toArray, List.getElem?_cons_succ, List.getElem?_cons_zero, Option.some.injEq] at ho
      subst ho
      rintro _ ⟨nw, rfl⟩
      first | (go_simp; done) | (go_simp; with_reducible rfl)
    try simp only [Act.put, List.setIfInBounds_toArray, List.set_cons_zero, List.set_cons_succ]
    refine h_take (i := 5) (d := (some 53)) (v := ?vcpof) (by rfl) (by kernel_rfl) (by kernel_rfl) (by kernel_rfl) (fun _ _ _ h => h) (by rfl) ?hycpof hHeld ?restcpof
    case hycpof =>
      intro o ho
      simp only [List.getElem?_toArray, List.getElem?_cons_succ, List.getElem?_cons_zero, Option.some.injEq] at ho
      subst ho
      rintro _ ⟨nw, rfl⟩
      first | (go_simp; done) | (go_simp; with_reducible rfl)
    try simp only [Act.put, List.setIfInBounds_toArray, List.set_cons_zero, List.set_cons_succ]
    refine wpAnyH_ready (rs := [6]) (by kernel_rfl) (by simp) ?_
    refine AllReadyH.cons rfl (fun K hK => ?_) AllReadyH.nil
    obtain ⟨⟨r0, r1, r2, r3, r4, r5, r6⟩, f0, f1, f2, f3, f4, f5, f6⟩ := seven_cellsO hRV
    go_simp
    have hcur := below_set7 hcur w.heap.size (Nat.le_refl _) (.int .i64 3) (.string ⟨#[]⟩) (.int .i64 0) (.int .i64 0) (.int .i64 0) (.int .i64 0) (.int .i64 nm)
    refine hK.out _ _ (after_mk hcur) (fun hHeld => ?_)
    clear hK K
    try simp only [Act.put, List.setIfInBounds_toArray, List.set_cons_zero, List.set_cons_succ]
    refine h_take (i := 7) (d := (some 3)) (v := ?vcpog) (by rfl) (by kernel_rfl) (by kernel_rfl) (by kernel_rfl) (fun _ _ _ h => h) (by rfl) ?hycpog hHeld ?restcpog
    case hycpog =>
      intro o ho
      simp only [List.getElem?_toArray, List.getElem?_cons_succ, List.getElem?_cons_zero, Option.some.injEq] at ho
      subst ho
      rintro _ ⟨nw, rfl⟩
      first | (go_simp; done) | (go_simp; with_reducible rfl)
    try simp only [Act.put, List.setIfInBounds_toArray, List.set_cons_zero, List.set_cons_succ]
    refine wpAnyH_done (by kernel_rfl) ?_ _
    go_wp2
    exact bodyPost_ret (v := .tuple #[.agg #[.int .i64 3, .string ⟨#[]⟩, .int .i64 0, .int .i64 0, .int .i64 0, .int .i64 0, .int .i64 nm], .bool (cq == 0)]) (by simp [results, Try.results53, go_sem, r0, r1, r2, r3, r4, r5, r6]) rfl ⟨L12.of HIB.out rfl HQ.out, hcur⟩
  · have hF := HF.out V0 hXV
    go_simp
    refine hF.mono ?_
    rintro e w5 ⟨rfl, hb5⟩
    have hXV := (hb5.block _ (Array.getElem?_eq_some_iff.1 hXV).1).trans hXV
    have hRV := (hb5.block _ (Array.getElem?_eq_some_iff.1 hRV).1).trans hRV
    have hcur := below_after_of hcur hb5
    clear hb5 hF
    refine hK.out _ _ (after_mk hcur) (fun hHeld => ?_)
    clear hK K
    try simp only [Act.put, List.setIfInBounds_toArray, List.set_cons_zero, List.set_cons_succ]
    refine h_take (i := 4) (d := (some 52)) (v := ?vcpoh) (by rfl) (by kernel_rfl) (by kernel_rfl) (by kernel_rfl) (fun _ _ _ h => h) (by rfl) ?hycpoh hHeld ?restcpoh
    case hycpoh =>
      intro o ho
      simp only [List.getElem?_toArray, List.getElem?_cons_succ, List.getElem?_cons_zero, Option.some.injEq] at ho
      subst ho
      rintro _ ⟨nw, rfl⟩
      first | (go_simp; done) | (go_simp; with_reducible rfl)
    try simp only [Act.put, List.setIfInBounds_toArray, List.set_cons_zero, List.set_cons_succ]
    refine h_take (i := 5) (d := (some 53)) (v := ?vcpoi) (by rfl) (by kernel_rfl) (by kernel_rfl) (by kernel_rfl) (fun _ _ _ h => h) (by rfl) ?hycpoi hHeld ?restcpoi
    case hycpoi =>
      intro o ho
      simp only [List.getElem?_toArray, List.getElem?_cons_succ, List.getElem?_cons_zero, Option.some.injEq] at ho
      subst ho
      rintro _ ⟨nw, rfl⟩
      first | (go_simp; done) | (go_simp; with_reducible rfl)
    try simp only [Act.put, List.setIfInBounds_toArray, List.set_cons_zero, List.set_cons_succ]
    refine wpAnyH_ready (rs := [0]) (by kernel_rfl) (by simp) ?_
    refine AllReadyH.cons rfl (fun K hK => ?_) AllReadyH.nil
    obtain ⟨⟨z0, z1, z2, z3, z4, z5, z6⟩, -⟩ := seven_cellsO hXV
    go_simp
    refine hK.out _ _ (after_mk hcur) (fun hHeld => ?_)
    clear hK K
    try simp only [Act.put, List.setIfInBounds_toArray, List.set_cons_zero, List.set_cons_succ]
    clear z0 z1 z2 z3 z4 z5 z6
    refine wpAnyH_ready (rs := [6]) (by kernel_rfl) (by simp) ?_
    refine AllReadyH.cons rfl (fun K hK => ?_) AllReadyH.nil
    obtain ⟨⟨r0, r1, r2, r3, r4, r5, r6⟩, f0, f1, f2, f3, f4, f5, f6⟩ := seven_cellsO hRV
    go_simp
    have hcur := below_set7 hcur w.heap.size (Nat.le_refl _) (.int .i64 3) (.string ⟨#[]⟩) (.int .i64 0) (.int .i64 0) (.int .i64 0) (.int .i64 0) (.int .i64 nm)
    refine hK.out _ _ (after_mk hcur) (fun hHeld => ?_)
    clear hK K
    try simp only [Act.put, List.setIfInBounds_toArray, List.set_cons_zero, List.set_cons_succ]
    refine h_take (i := 7) (d := (some 3)) (v := ?vcpoj) (by rfl) (by kernel_rfl) (by kernel_rfl) (by kernel_rfl) (fun _ _ _ h => h) (by rfl) ?hycpoj hHeld ?restcpoj
    case hycpoj =>
      intro o ho
      simp only [List.getElem?_toArray, List.getElem?_cons_succ, List.getElem?_cons_zero, Option.some.injEq] at ho
      subst ho
      rintro _ ⟨nw, rfl⟩
      first | (go_simp; done) | (go_simp; with_reducible rfl)
    try simp only [Act.put, List.setIfInBounds_toArray, List.set_cons_zero, List.set_cons_succ]
    refine wpAnyH_done (by kernel_rfl) ?_ _
    go_wp2
    exact bodyPost_ret (v := .tuple #[.agg #[.int .i64 3, .string ⟨#[]⟩, .int .i64 0, .int .i64 0, .int .i64 0, .int .i64 0, .int .i64 nm], .bool (cq == 0)]) (by simp [results, Try.results53, go_sem, r0, r1, r2, r3, r4, r5, r6]) rfl ⟨L12.of HIB.out rfl HQ.out, hcur⟩
set_option maxRecDepth 100000 in
set_option maxHeartbeats 2000000 in
theorem l12Read_cp0 (b off c : Nat) (bs : List Int) (w : World) (hv : OffB w (.slice (some ⟨b, off, none⟩) bs.length c) bs) (_ : Bts bs) (_ : bs.length ≤ 1048576) (h0 : 0 < bs.length) (hk : bs.getD 0 0 = 3) (hn3 : ¬ bs.length = 3) :
    Calls Try.prog 53 #[.slice (some ⟨b, off, none⟩) bs.length c] w fun e w' => L12 bs e ∧ Below w.heap.size w w' := by
  obtain ⟨-, b', off', e, hb, hc⟩ := hv.ints.at (by omega)
  cases e
  obtain ⟨n, hn⟩ : ∃ n, n = bs.length := ⟨_, rfl⟩
  have HN : Hid (n = bs.length) := hn
  obtain ⟨W, hW⟩ : ∃ W, W = ((w.alloc (.cells #[.int .i64 0, .string ⟨#[]⟩, .int .i64 0, .int .i64 0, .int .i64 0, .int .i64 0, .int .i64 0] 33)).alloc (.cells #[.int .i64 3, .string ⟨#[]⟩, .int .i64 0, .int .i64 0, .int .i64 0, .int .i64 0, .int .i64 0] 33)) := ⟨_, rfl⟩
  have hBW : Below w.heap.size w W := by rw [hW]; exact two_new _ _
  have hR : W.heap[w.heap.size]? = some (.cells #[.int .i64 0, .string ⟨#[]⟩, .int .i64 0, .int .i64 0, .int .i64 0, .int .i64 0, .int .i64 0] 33) := by rw [hW]; exact heap_alloc_old' _ _ _ (heap_alloc_new w _)
  have hX : W.heap[w.heap.size + 1]? = some (.cells #[.int .i64 3, .string ⟨#[]⟩, .int .i64 0, .int .i64 0, .int .i64 0, .int .i64 0, .int .i64 0] 33) := by rw [hW]; exact heap_new2 w _ _
  have q0 := ((one_new (.cells #[.int .i64 0, .string ⟨#[]⟩, .int .i64 0, .int .i64 0, .int .i64 0, .int .i64 0, .int .i64 0] 33)).cell (p := ⟨b, off + 0, none⟩) hb).trans (hc 0 (by omega))
  rw [Nat.add_zero] at q0
  rw [hk] at q0
  have HIB : Hid (isB bs = false) := isB_3no hn3 hk
  have HQ : Hid (false = true → (opZ 3) = rdOpn bs) := fun h => by cases h
  have h0i : ¬ ((n : Nat) : Int) = 0 := by omega
  have h3i : (((n : Nat) : Int) == 3) = false := by simp; omega
  rw [← hn]
  have HW : Hid (((w.alloc (.cells #[.int .i64 0, .string ⟨#[]⟩, .int .i64 0, .int .i64 0, .int .i64 0, .int .i64 0, .int .i64 0] 33)).alloc (.cells #[.int .i64 3, .string ⟨#[]⟩, .int .i64 0, .int .i64 0, .int .i64 0, .int .i64 0, .int .i64 0] 33)) = W) := hW.symm
  have HBW : Hid (Below w.heap.size w W) := hBW
  have HR : Hid (W.heap[w.heap.size]? = some (.cells #[.int .i64 0, .string ⟨#[]⟩, .int .i64 0, .int .i64 0, .int .i64 0, .int .i64 0, .int .i64 0] 33)) := hR
  have HX : Hid (W.heap[w.heap.size + 1]? = some (.cells #[.int .i64 3, .string ⟨#[]⟩, .int .i64 0, .int .i64 0, .int .i64 0, .int .i64 0, .int .i64 0] 33)) := hX
  have HL : Hid (w.heap.size + 1 < W.heap.size) := (Array.getElem?_eq_some_iff.1 hX).1
  have hcur : Below w.heap.size w W := hBW
  clear hv hc hn hn3 HN h0 hk
  go_enter Try.func53, Try.ntmps53
  go_upto_region 12 with fail
  rw [HW.out]
  obtain ⟨W4, hW4⟩ : ∃ W4, W4 = W := ⟨_, rfl⟩
  have hX4 := HX.out
  have hR4 := HR.out
  rw [← hW4] at hX4 hR4 hcur ⊢
  clear HW hW4 hW hBW hR hX HBW HR HX HL q0 hb
  refine wp_region_held_drew (S := fun w' => ∃ n : After w, w' = n.w) (by kernel_rfl) (after_mk hcur.drew) (fun hHeld => ?_)
  have hcur := hcur.drew
  have hXV : W4.drew.heap[w.heap.size + 1]? = some (.cells #[.int .i64 3, .string ⟨#[]⟩, .int .i64 0, .int .i64 0, .int .i64 0, .int .i64 0, .int .i64 0] 33) := hX4
  have hRV : W4.drew.heap[w.heap.size]? = some (.cells #[.int .i64 0, .string ⟨#[]⟩, .int .i64 0, .int .i64 0, .int .i64 0, .int .i64 0, .int .i64 0] 33) := hR4
  clear hX4 hR4
  generalize W4.drew = V0 at *
  refine h_take (i := 1) (d := (some 49)) (v := ?vcpza) (by rfl) (by kernel_rfl) (by kernel_rfl) (by kernel_rfl) (fun _ _ _ h => h) (by rfl) ?hycpza hHeld ?restcpza
  case hycpza =>
    intro o ho
    simp only [List.getElem?_toArray, List.getElem?_cons_succ, List.getElem?_cons_zero, Option.some.injEq] at ho
    subst ho
    rintro _ ⟨nw, rfl⟩
    first | (go_simp; done) | (go_simp; with_reducible rfl)
  try simp only [Act.put, List.setIfInBounds_toArray, List.set_cons_zero, List.set_cons_succ]
  refine h_take (i := 2) (d := (some 50)) (v := ?vcpzb) (by rfl) (by kernel_rfl) (by kernel_rfl) (by kernel_rfl) (fun _ _ _ h => h) (by rfl) ?hycpzb hHeld ?restcpzb
  case hycpzb =>
    intro o ho
    simp only [List.getElem?_toArray, List.getElem?_cons_succ, List.getElem?_cons_zero, Option.some.injEq] at ho
    subst ho
    rintro _ ⟨nw, rfl⟩
    first | (go_simp; done) | (go_simp; with_reducible rfl)
  try simp only [Act.put, List.setIfInBounds_toArray, List.set_cons_zero, List.set_cons_succ]
  refine h_skip (i := 3) (d := (some 51)) (by rfl) (by kernel_rfl) (by kernel_rfl) (by kernel_rfl) (fun _ _ _ h => h) (by rfl) hHeld ?_
  try simp only [Act.put, List.setIfInBounds_toArray, List.set_cons_zero, List.set_cons_succ]
  refine h_skip (i := 4) (d := (some 52)) (by rfl) (by kernel_rfl) (by kernel_rfl) (by kernel_rfl) (fun _ _ _ h => h) (by rfl) hHeld ?_
  try simp only [Act.put, List.setIfInBounds_toArray, List.set_cons_zero, List.set_cons_succ]
  refine h_take (i := 5) (d := (some 53)) (v := ?vcpzc) (by rfl) (by kernel_rfl) (by kernel_rfl) (by kernel_rfl) (fun _ _ _ h => h) (by rfl) ?hycpzc hHeld ?restcpzc
  case hycpzc =>
    intro o ho
    simp only [List.getElem?_toArray, List.getElem?_cons_succ, List.getElem?_cons_zero, Option.some.injEq] at ho
    subst ho
    rintro _ ⟨nw, rfl⟩
    first | (go_simp; done) | (go_simp; with_reducible rfl)
  try simp only [Act.put, List.setIfInBounds_toArray, List.set_cons_zero, List.set_cons_succ]
  refine wpAnyH_ready (rs := [0]) (by kernel_rfl) (by simp) ?_
  refine AllReadyH.cons rfl (fun K hK => ?_) AllReadyH.nil
  obtain ⟨⟨z0, z1, z2, z3, z4, z5, z6⟩, -⟩ := seven_cellsO hXV
  go_simp
  refine hK.out _ _ (after_mk hcur) (fun hHeld => ?_)
  clear hK K
  try simp only [Act.put, List.setIfInBounds_toArray, List.set_cons_zero, List.set_cons_succ]
  clear z0 z1 z2 z3 z4 z5 z6
  refine wpAnyH_ready (rs := [6]) (by kernel_rfl) (by simp) ?_
  refine AllReadyH.cons rfl (fun K hK => ?_) AllReadyH.nil
  obtain ⟨⟨r0, r1, r2, r3, r4, r5, r6⟩, f0, f1, f2, f3, f4, f5, f6⟩ := seven_cellsO hRV
  go_simp
  have hcur := below_set7 hcur w.heap.size (Nat.le_refl _) (.int .i64 3) (.string ⟨#[]⟩) (.int .i64 0) (.int .i64 0) (.int .i64 0) (.int .i64 0) (.int .i64 0)
  refine hK.out _ _ (after_mk hcur) (fun hHeld => ?_)
  clear hK K
  try simp only [Act.put, List.setIfInBounds_toArray, List.set_cons_zero, List.set_cons_succ]
  refine h_take (i := 7) (d := (some 3)) (v := ?vcpzd) (by rfl) (by kernel_rfl) (by kernel_rfl) (by kernel_rfl) (fun _ _ _ h => h) (by rfl) ?hycpzd hHeld ?restcpzd
  case hycpzd =>
    intro o ho
    simp only [List.getElem?_toArray, List.getElem?_cons_succ, List.getElem?_cons_zero, Option.some.injEq] at ho
    subst ho
    rintro _ ⟨nw, rfl⟩
    first | (go_simp; done) | (go_simp; with_reducible rfl)
  try simp only [Act.put, List.setIfInBounds_toArray, List.set_cons_zero, List.set_cons_succ]
  refine wpAnyH_done (by kernel_rfl) ?_ _
  go_wp2
  exact bodyPost_ret (v := .tuple #[.agg #[.int .i64 3, .string ⟨#[]⟩, .int .i64 0, .int .i64 0, .int .i64 0, .int .i64 0, .int .i64 0], .bool false]) (by simp [results, Try.results53, go_sem, r0, r1, r2, r3, r4, r5, r6]) rfl ⟨L12.of HIB.out rfl HQ.out, hcur⟩
set_option maxRecDepth 100000 in
set_option maxHeartbeats 2000000 in
theorem l12Read_up1 (b off c : Nat) (bs : List Int) (w : World) (hv : OffB w (.slice (some ⟨b, off, none⟩) bs.length c) bs) (hB : Bts bs) (hx : bs.length ≤ 1048576) (h4 : 3 < bs.length) (hk : bs.getD 0 0 = 1) (h2 : rdB (bs.drop 3) = true) :
    Calls Try.prog 53 #[.slice (some ⟨b, off, none⟩) bs.length c] w fun e w' => L12 bs e ∧ Below w.heap.size w w' := by
  obtain ⟨-, b', off', e, hb, hc⟩ := hv.ints.at (by omega)
  cases e
  obtain ⟨n, hn⟩ : ∃ n, n = bs.length := ⟨_, rfl⟩
  have HN : Hid (n = bs.length) := hn
  obtain ⟨W, hW⟩ : ∃ W, W = ((w.alloc (.cells #[.int .i64 0, .string ⟨#[]⟩, .int .i64 0, .int .i64 0, .int .i64 0, .int .i64 0, .int .i64 0] 33)).alloc (.cells #[.int .i64 1, .string ⟨#[]⟩, .int .i64 0, .int .i64 0, .int .i64 0, .int .i64 0, .int .i64 0] 33)) := ⟨_, rfl⟩
  have hBW : Below w.heap.size w W := by rw [hW]; exact two_new _ _
  have hR : W.heap[w.heap.size]? = some (.cells #[.int .i64 0, .string ⟨#[]⟩, .int .i64 0, .int .i64 0, .int .i64 0, .int .i64 0, .int .i64 0] 33) := by rw [hW]; exact heap_alloc_old' _ _ _ (heap_alloc_new w _)
  have hX : W.heap[w.heap.size + 1]? = some (.cells #[.int .i64 1, .string ⟨#[]⟩, .int .i64 0, .int .i64 0, .int .i64 0, .int .i64 0, .int .i64 0] 33) := by rw [hW]; exact heap_new2 w _ _
  have q0 := ((one_new (.cells #[.int .i64 0, .string ⟨#[]⟩, .int .i64 0, .int .i64 0, .int .i64 0, .int .i64 0, .int .i64 0] 33)).cell (p := ⟨b, off + 0, none⟩) hb).trans (hc 0 (by omega))
  rw [Nat.add_zero] at q0
  rw [hk] at q0
  have hNm := fun w' (hbq : Below W.heap.size W w') => l3Two_any b off c n 1 (bs.getD 1 0) (bs.getD 2 0) w' (by omega) (by omega) ((hbq.cell (p := ⟨b, off + 1, none⟩) (Nat.lt_of_lt_of_le hb hBW.size)).trans ((hBW.cell (p := ⟨b, off + 1, none⟩) hb).trans (hc 1 (by omega)))) ((hbq.cell (p := ⟨b, off + 2, none⟩) (Nat.lt_of_lt_of_le hb hBW.size)).trans ((hBW.cell (p := ⟨b, off + 2, none⟩) hb).trans (hc 2 (by omega)))) (hB.at (by omega)) (hB.at (by omega))
  have eN : 256 * bs.getD 1 0 + bs.getD 2 0 = rdN bs 1 := rfl
  rw [eN] at hNm
  have hD : Bts (bs.drop 3) := fun x hx => hB x (List.mem_of_mem_drop hx)
  obtain ⟨rl, rv, ro, rp, hcond, hsz, hRe⟩ := l3Read_both (bs.drop 3) hD (by rw [List.length_drop]; omega)
  rw [h2] at hRe
  have hRd : ∀ w', Below w.heap.size w w' → Calls Try.prog 93 #[.slice (some ⟨b, off + 3, none⟩) (n - 3) (c - 3)] w' fun e w'' => e = .returned (.tuple #[recV rl rv ro rp, .bool true]) ∧ Below w'.heap.size w' w'' := fun w' hbq => by
    rw [hn]
    exact hRe _ w' ((hv.drop3 (by omega)).below hbq)
  obtain ⟨e1, e2, e3, e4⟩ := hcond h2
  have hxr : rdOpn bs = ⟨1, rl, rv, ro, rp, rdN bs 1, 0⟩ := by rw [rdOpn_up (by omega) hk h2, e1, e2, e3, e4]
  have HIB : Hid (isB bs = (opC 1 rl rv ro rp (rdN bs 1) 0 == 0)) := (by rw [isB_up hB (by omega) hk h2, hxr]; rfl : isB bs = (opC 1 rl rv ro rp (rdN bs 1) 0 == 0))
  have HQ : Hid ((opC 1 rl rv ro rp (rdN bs 1) 0 == 0) = true → (⟨1, rl, rv, ro, rp, rdN bs 1, 0⟩ : Opn) = rdOpn bs) := fun _ => hxr.symm
  clear hxr e1 e2 e3 e4
  generalize rdN bs 1 = nm at *
  have HF : Hid (∀ w', w'.heap[w.heap.size + 1]? = some (.cells #[.int .i64 1, .string rl, .int .i64 rv, .int .i64 ro, .int .i64 rp, .int .i64 nm, .int .i64 0] 33) → Calls Try.prog 45 #[.pointer (some ⟨w.heap.size + 1, 0, none⟩)] w' fun e w'' => e = .returned (.int .i64 (opC 1 rl rv ro rp nm 0)) ∧ Below w'.heap.size w' w'') := fun w' h => l12Fault_any _ 1 rl rv ro rp nm 0 w' (opAt_of h) hsz
  generalize opC 1 rl rv ro rp nm 0 = cq at *
  have hcn : bs.length ≤ c := by
    obtain ⟨⟨a, c', e, hcap⟩, -⟩ := hv
    cases e
    omega
  rw [← hn] at hcn h4 ⊢
  have h0i : ¬ ((n : Nat) : Int) = 0 := by omega
  have h4i : ((n : Nat) : Int) > 3 := by omega
  have hc3 : ¬ c = 3 := by omega
  have HW : Hid (((w.alloc (.cells #[.int .i64 0, .string ⟨#[]⟩, .int .i64 0, .int .i64 0, .int .i64 0, .int .i64 0, .int .i64 0] 33)).alloc (.cells #[.int .i64 1, .string ⟨#[]⟩, .int .i64 0, .int .i64 0, .int .i64 0, .int .i64 0, .int .i64 0] 33)) = W) := hW.symm
  have HBW : Hid (Below w.heap.size w W) := hBW
  have HR : Hid (W.heap[w.heap.size]? = some (.cells #[.int .i64 0, .string ⟨#[]⟩, .int .i64 0, .int .i64 0, .int .i64 0, .int .i64 0, .int .i64 0] 33)) := hR
  have HX : Hid (W.heap[w.heap.size + 1]? = some (.cells #[.int .i64 1, .string ⟨#[]⟩, .int .i64 0, .int .i64 0, .int .i64 0, .int .i64 0, .int .i64 0] 33)) := hX
  have HL : Hid (w.heap.size + 1 < W.heap.size) := (Array.getElem?_eq_some_iff.1 hX).1
  unfold recV at hRd
  clear hv hB hc hn HN hk hW hBW hR hX eN hcond hsz hRe h2 hD
  go_enter Try.func53, Try.ntmps53
  go_wp2_with fail
  rw [HW.out]
  refine (hNm _ (Below.refl _ _)).mono ?_
  rintro e w1 ⟨rfl, nd, hd1⟩
  have hb1 : Below W.heap.size W w1 := by rw [hd1]; exact below_drewN (Below.refl _ _) nd
  clear hd1 hNm HW q0
  have hx1 := (hb1.block _ HL.out).trans HX.out
  have hr1 := (hb1.block w.heap.size (by have := HL.out; omega)).trans HR.out
  obtain ⟨⟨y0, y1, y2, y3, y4, y5, y6⟩, g0, g1, g2, g3, g4, g5, g6⟩ := seven_cellsO hx1
  obtain ⟨W2, hW2⟩ : ∃ W2, W2 = w1.setCell ⟨w.heap.size + 1, 5, none⟩ (.int .i64 nm) := ⟨_, rfl⟩
  have hx2 := put_five7 hx1 (.int .i64 nm)
  rw [← hW2] at hx2
  have hr2 : W2.heap[w.heap.size]? = some (.cells #[.int .i64 0, .string ⟨#[]⟩, .int .i64 0, .int .i64 0, .int .i64 0, .int .i64 0, .int .i64 0] 33) := by rw [hW2]; exact (heap_setCell_other w1 ⟨w.heap.size + 1, 5, none⟩ _ _ (by show w.heap.size ≠ w.heap.size + 1; omega)).trans hr1
  have HB2 : Hid (Below w.heap.size w W2) := (by rw [hW2]; exact (below_after_of HBW.out hb1).setCell (Nat.le_succ _) _ : Below w.heap.size w W2)
  have HW2 : Hid (w1.setCell ⟨w.heap.size + 1, 5, none⟩ (.int .i64 nm) = W2) := hW2.symm
  have hRd := hRd _ HB2.out
  clear hW2 hx1 hr1 hb1
  go_wp2_with fail
  rw [HW2.out]
  refine hRd.mono ?_
  rintro e w3 ⟨rfl, hb3⟩
  have hx3 := (hb3.block _ (Array.getElem?_eq_some_iff.1 hx2).1).trans hx2
  have hr3 := (hb3.block _ (Array.getElem?_eq_some_iff.1 hr2).1).trans hr2
  clear hRd HW2 hx2 hr2 y0 y1 y2 y3 y4 y5 y6 g0 g1 g2 g3 g4 g5 g6
  obtain ⟨⟨y0, y1, y2, y3, y4, y5, y6⟩, g0, g1, g2, g3, g4, g5, g6⟩ := seven_cellsO hx3
  obtain ⟨W4, hW4⟩ : ∃ W4, W4 = (((w3.setCell ⟨w.heap.size + 1, 1, none⟩ (.string rl)).setCell ⟨w.heap.size + 1, 2, none⟩ (.int .i64 rv)).setCell ⟨w.heap.size + 1, 3, none⟩ (.int .i64 ro)).setCell ⟨w.heap.size + 1, 4, none⟩ (.int .i64 rp) := ⟨_, rfl⟩
  have hX4 := put_rec7 hx3 (.string rl) (.int .i64 rv) (.int .i64 ro) (.int .i64 rp)
  rw [← hW4] at hX4
  have hR4 : W4.heap[w.heap.size]? = some (.cells #[.int .i64 0, .string ⟨#[]⟩, .int .i64 0, .int .i64 0, .int .i64 0, .int .i64 0, .int .i64 0] 33) := by rw [hW4]; exact (other_set4 (by omega) _ _ _ _).trans hr3
  have hcur : Below w.heap.size w W4 := by rw [hW4]; exact below_set4 (below_after_of HB2.out hb3) _ (Nat.le_succ _) _ _ _ _
  have HW4 : Hid ((((w3.setCell ⟨w.heap.size + 1, 1, none⟩ (.string rl)).setCell ⟨w.heap.size + 1, 2, none⟩ (.int .i64 rv)).setCell ⟨w.heap.size + 1, 3, none⟩ (.int .i64 ro)).setCell ⟨w.heap.size + 1, 4, none⟩ (.int .i64 rp) = W4) := hW4.symm
  clear hW4 hx3 hr3 hb3 HB2
  go_upto_region 12 with fail
  rw [HW4.out]
  clear HW4 y0 y1 y2 y3 y4 y5 y6 g0 g1 g2 g3 g4 g5 g6 HBW HR HX HL hb
  refine wp_region_held_drew (S := fun w' => ∃ n : After w, w' = n.w) (by kernel_rfl) (after_mk hcur.drew) (fun hHeld => ?_)
  have hcur := hcur.drew
  have hXV : W4.drew.heap[w.heap.size + 1]? = some (.cells #[.int .i64 1, .string rl, .int .i64 rv, .int .i64 ro, .int .i64 rp, .int .i64 nm, .int .i64 0] 33) := hX4
  have hRV : W4.drew.heap[w.heap.size]? = some (.cells #[.int .i64 0, .string ⟨#[]⟩, .int .i64 0, .int .i64 0, .int .i64 0, .int .i64 0, .int .i64 0] 33) := hR4
  clear hX4 hR4
  generalize W4.drew = V0 at *
  refine h_take (i := 1) (d := (some 49)) (v := ?vupta) (by rfl) (by kernel_rfl) (by kernel_rfl) (by kernel_rfl) (fun _ _ _ h => h) (by rfl) ?hyupta hHeld ?restupta
  case hyupta =>
    intro o ho
    simp only [List.getElem?_toArray, List.getElem?_cons_succ, List.getElem?_cons_zero, Option.some.injEq] at ho
    subst ho
    rintro _ ⟨nw, rfl⟩
    first | (go_simp; done) | (go_simp; with_reducible rfl)
  try simp only [Act.put, List.setIfInBounds_toArray, List.set_cons_zero, List.set_cons_succ]
  refine h_take (i := 2) (d := (some 50)) (v := ?vuptb) (by rfl) (by kernel_rfl) (by kernel_rfl) (by kernel_rfl) (fun _ _ _ h => h) (by rfl) ?hyuptb hHeld ?restuptb
  case hyuptb =>
    intro o ho
    simp only [List.getElem?_toArray, List.getElem?_cons_succ, List.getElem?_cons_zero, Option.some.injEq] at ho
    subst ho
    rintro _ ⟨nw, rfl⟩
    first | (go_simp; done) | (go_simp; with_reducible rfl)
  try simp only [Act.put, List.setIfInBounds_toArray, List.set_cons_zero, List.set_cons_succ]
  refine wpAnyH_ready (rs := [0, 3]) (by kernel_rfl) (by simp) ?_
  refine AllReadyH.cons rfl (fun K hK => ?_) (AllReadyH.cons rfl (fun K hK => ?_) AllReadyH.nil)
  · obtain ⟨⟨z0, z1, z2, z3, z4, z5, z6⟩, -⟩ := seven_cellsO hXV
    go_simp
    refine hK.out _ _ (after_mk hcur) (fun hHeld => ?_)
    clear hK K
    try simp only [Act.put, List.setIfInBounds_toArray, List.set_cons_zero, List.set_cons_succ]
    clear z0 z1 z2 z3 z4 z5 z6
    refine wpAnyH_ready (rs := [3]) (by kernel_rfl) (by simp) ?_
    refine AllReadyH.cons rfl (fun K hK => ?_) AllReadyH.nil
    have hF := HF.out V0 hXV
    go_simp
    refine hF.mono ?_
    rintro e w5 ⟨rfl, hb5⟩
    have hXV := (hb5.block _ (Array.getElem?_eq_some_iff.1 hXV).1).trans hXV
    have hRV := (hb5.block _ (Array.getElem?_eq_some_iff.1 hRV).1).trans hRV
    have hcur := below_after_of hcur hb5
    clear hb5 hF
    refine hK.out _ _ (after_mk hcur) (fun hHeld => ?_)
    clear hK K
    try simp only [Act.put, List.setIfInBounds_toArray, List.set_cons_zero, List.set_cons_succ]
    refine h_take (i := 4) (d := (some 52)) (v := ?vupte) (by rfl) (by kernel_rfl) (by kernel_rfl) (by kernel_rfl) (fun _ _ _ h => h) (by rfl) ?hyupte hHeld ?restupte
    case hyupte =>
      intro o ho
      simp only [List.getElem?_toArray, List.getElem?_cons_succ, List.getElem?_cons_zero, Option.some.injEq] at ho
      subst ho
      rintro _ ⟨nw, rfl⟩
      first | (go_simp; done) | (go_simp; with_reducible rfl)
    try simp only [Act.put, List.setIfInBounds_toArray, List.set_cons_zero, List.set_cons_succ]
    refine h_take (i := 5) (d := (some 53)) (v := ?vuptf) (by rfl) (by kernel_rfl) (by kernel_rfl) (by kernel_rfl) (fun _ _ _ h => h) (by rfl) ?hyuptf hHeld ?restuptf
    case hyuptf =>
      intro o ho
      simp only [List.getElem?_toArray, List.getElem?_cons_succ, List.getElem?_cons_zero, Option.some.injEq] at ho
      subst ho
      rintro _ ⟨nw, rfl⟩
      first | (go_simp; done) | (go_simp; with_reducible rfl)
    try simp only [Act.put, List.setIfInBounds_toArray, List.set_cons_zero, List.set_cons_succ]
    refine wpAnyH_ready (rs := [6]) (by kernel_rfl) (by simp) ?_
    refine AllReadyH.cons rfl (fun K hK => ?_) AllReadyH.nil
    obtain ⟨⟨r0, r1, r2, r3, r4, r5, r6⟩, f0, f1, f2, f3, f4, f5, f6⟩ := seven_cellsO hRV
    go_simp
    have hcur := below_set7 hcur w.heap.size (Nat.le_refl _) (.int .i64 1) (.string rl) (.int .i64 rv) (.int .i64 ro) (.int .i64 rp) (.int .i64 nm) (.int .i64 0)
    refine hK.out _ _ (after_mk hcur) (fun hHeld => ?_)
    clear hK K
    try simp only [Act.put, List.setIfInBounds_toArray, List.set_cons_zero, List.set_cons_succ]
    refine h_take (i := 7) (d := (some 3)) (v := ?vuptg) (by rfl) (by kernel_rfl) (by kernel_rfl) (by kernel_rfl) (fun _ _ _ h => h) (by rfl) ?hyuptg hHeld ?restuptg
    case hyuptg =>
      intro o ho
      simp only [List.getElem?_toArray, List.getElem?_cons_succ, List.getElem?_cons_zero, Option.some.injEq] at ho
      subst ho
      rintro _ ⟨nw, rfl⟩
      first | (go_simp; done) | (go_simp; with_reducible rfl)
    try simp only [Act.put, List.setIfInBounds_toArray, List.set_cons_zero, List.set_cons_succ]
    refine wpAnyH_done (by kernel_rfl) ?_ _
    go_wp2
    exact bodyPost_ret (v := .tuple #[.agg #[.int .i64 1, .string rl, .int .i64 rv, .int .i64 ro, .int .i64 rp, .int .i64 nm, .int .i64 0], .bool (cq == 0)]) (by simp [results, Try.results53, go_sem, r0, r1, r2, r3, r4, r5, r6]) rfl ⟨L12.of HIB.out rfl HQ.out, hcur⟩
  · have hF := HF.out V0 hXV
    go_simp
    refine hF.mono ?_
    rintro e w5 ⟨rfl, hb5⟩
    have hXV := (hb5.block _ (Array.getElem?_eq_some_iff.1 hXV).1).trans hXV
    have hRV := (hb5.block _ (Array.getElem?_eq_some_iff.1 hRV).1).trans hRV
    have hcur := below_after_of hcur hb5
    clear hb5 hF
    refine hK.out _ _ (after_mk hcur) (fun hHeld => ?_)
    clear hK K
    try simp only [Act.put, List.setIfInBounds_toArray, List.set_cons_zero, List.set_cons_succ]
    refine h_take (i := 4) (d := (some 52)) (v := ?vupth) (by rfl) (by kernel_rfl) (by kernel_rfl) (by kernel_rfl) (fun _ _ _ h => h) (by rfl) ?hyupth hHeld ?restupth
    case hyupth =>
      intro o ho
      simp only [List.getElem?_toArray, List.getElem?_cons_succ, List.getElem?_cons_zero, Option.some.injEq] at ho
      subst ho
      rintro _ ⟨nw, rfl⟩
      first | (go_simp; done) | (go_simp; with_reducible rfl)
    try simp only [Act.put, List.setIfInBounds_toArray, List.set_cons_zero, List.set_cons_succ]
    refine h_take (i := 5) (d := (some 53)) (v := ?vupti) (by rfl) (by kernel_rfl) (by kernel_rfl) (by kernel_rfl) (fun _ _ _ h => h) (by rfl) ?hyupti hHeld ?restupti
    case hyupti =>
      intro o ho
      simp only [List.getElem?_toArray, List.getElem?_cons_succ, List.getElem?_cons_zero, Option.some.injEq] at ho
      subst ho
      rintro _ ⟨nw, rfl⟩
      first | (go_simp; done) | (go_simp; with_reducible rfl)
    try simp only [Act.put, List.setIfInBounds_toArray, List.set_cons_zero, List.set_cons_succ]
    refine wpAnyH_ready (rs := [0]) (by kernel_rfl) (by simp) ?_
    refine AllReadyH.cons rfl (fun K hK => ?_) AllReadyH.nil
    obtain ⟨⟨z0, z1, z2, z3, z4, z5, z6⟩, -⟩ := seven_cellsO hXV
    go_simp
    refine hK.out _ _ (after_mk hcur) (fun hHeld => ?_)
    clear hK K
    try simp only [Act.put, List.setIfInBounds_toArray, List.set_cons_zero, List.set_cons_succ]
    clear z0 z1 z2 z3 z4 z5 z6
    refine wpAnyH_ready (rs := [6]) (by kernel_rfl) (by simp) ?_
    refine AllReadyH.cons rfl (fun K hK => ?_) AllReadyH.nil
    obtain ⟨⟨r0, r1, r2, r3, r4, r5, r6⟩, f0, f1, f2, f3, f4, f5, f6⟩ := seven_cellsO hRV
    go_simp
    have hcur := below_set7 hcur w.heap.size (Nat.le_refl _) (.int .i64 1) (.string rl) (.int .i64 rv) (.int .i64 ro) (.int .i64 rp) (.int .i64 nm) (.int .i64 0)
    refine hK.out _ _ (after_mk hcur) (fun hHeld => ?_)
    clear hK K
    try simp only [Act.put, List.setIfInBounds_toArray, List.set_cons_zero, List.set_cons_succ]
    refine h_take (i := 7) (d := (some 3)) (v := ?vuptj) (by rfl) (by kernel_rfl) (by kernel_rfl) (by kernel_rfl) (fun _ _ _ h => h) (by rfl) ?hyuptj hHeld ?restuptj
    case hyuptj =>
      intro o ho
      simp only [List.getElem?_toArray, List.getElem?_cons_succ, List.getElem?_cons_zero, Option.some.injEq] at ho
      subst ho
      rintro _ ⟨nw, rfl⟩
      first | (go_simp; done) | (go_simp; with_reducible rfl)
    try simp only [Act.put, List.setIfInBounds_toArray, List.set_cons_zero, List.set_cons_succ]
    refine wpAnyH_done (by kernel_rfl) ?_ _
    go_wp2
    exact bodyPost_ret (v := .tuple #[.agg #[.int .i64 1, .string rl, .int .i64 rv, .int .i64 ro, .int .i64 rp, .int .i64 nm, .int .i64 0], .bool (cq == 0)]) (by simp [results, Try.results53, go_sem, r0, r1, r2, r3, r4, r5, r6]) rfl ⟨L12.of HIB.out rfl HQ.out, hcur⟩
set_option maxRecDepth 100000 in
set_option maxHeartbeats 2000000 in
theorem l12Read_up0 (b off c : Nat) (bs : List Int) (w : World) (hv : OffB w (.slice (some ⟨b, off, none⟩) bs.length c) bs) (hB : Bts bs) (hx : bs.length ≤ 1048576) (h4 : 3 < bs.length) (hk : bs.getD 0 0 = 1) (h2 : rdB (bs.drop 3) = false) :
    Calls Try.prog 53 #[.slice (some ⟨b, off, none⟩) bs.length c] w fun e w' => L12 bs e ∧ Below w.heap.size w w' := by
  obtain ⟨-, b', off', e, hb, hc⟩ := hv.ints.at (by omega)
  cases e
  obtain ⟨n, hn⟩ : ∃ n, n = bs.length := ⟨_, rfl⟩
  have HN : Hid (n = bs.length) := hn
  obtain ⟨W, hW⟩ : ∃ W, W = ((w.alloc (.cells #[.int .i64 0, .string ⟨#[]⟩, .int .i64 0, .int .i64 0, .int .i64 0, .int .i64 0, .int .i64 0] 33)).alloc (.cells #[.int .i64 1, .string ⟨#[]⟩, .int .i64 0, .int .i64 0, .int .i64 0, .int .i64 0, .int .i64 0] 33)) := ⟨_, rfl⟩
  have hBW : Below w.heap.size w W := by rw [hW]; exact two_new _ _
  have hR : W.heap[w.heap.size]? = some (.cells #[.int .i64 0, .string ⟨#[]⟩, .int .i64 0, .int .i64 0, .int .i64 0, .int .i64 0, .int .i64 0] 33) := by rw [hW]; exact heap_alloc_old' _ _ _ (heap_alloc_new w _)
  have hX : W.heap[w.heap.size + 1]? = some (.cells #[.int .i64 1, .string ⟨#[]⟩, .int .i64 0, .int .i64 0, .int .i64 0, .int .i64 0, .int .i64 0] 33) := by rw [hW]; exact heap_new2 w _ _
  have q0 := ((one_new (.cells #[.int .i64 0, .string ⟨#[]⟩, .int .i64 0, .int .i64 0, .int .i64 0, .int .i64 0, .int .i64 0] 33)).cell (p := ⟨b, off + 0, none⟩) hb).trans (hc 0 (by omega))
  rw [Nat.add_zero] at q0
  rw [hk] at q0
  have hNm := fun w' (hbq : Below W.heap.size W w') => l3Two_any b off c n 1 (bs.getD 1 0) (bs.getD 2 0) w' (by omega) (by omega) ((hbq.cell (p := ⟨b, off + 1, none⟩) (Nat.lt_of_lt_of_le hb hBW.size)).trans ((hBW.cell (p := ⟨b, off + 1, none⟩) hb).trans (hc 1 (by omega)))) ((hbq.cell (p := ⟨b, off + 2, none⟩) (Nat.lt_of_lt_of_le hb hBW.size)).trans ((hBW.cell (p := ⟨b, off + 2, none⟩) hb).trans (hc 2 (by omega)))) (hB.at (by omega)) (hB.at (by omega))
  have eN : 256 * bs.getD 1 0 + bs.getD 2 0 = rdN bs 1 := rfl
  rw [eN] at hNm
  have hD : Bts (bs.drop 3) := fun x hx => hB x (List.mem_of_mem_drop hx)
  obtain ⟨rl, rv, ro, rp, hcond, hsz, hRe⟩ := l3Read_both (bs.drop 3) hD (by rw [List.length_drop]; omega)
  rw [h2] at hRe
  have hRd : ∀ w', Below w.heap.size w w' → Calls Try.prog 93 #[.slice (some ⟨b, off + 3, none⟩) (n - 3) (c - 3)] w' fun e w'' => e = .returned (.tuple #[recV rl rv ro rp, .bool false]) ∧ Below w'.heap.size w' w'' := fun w' hbq => by
    rw [hn]
    exact hRe _ w' ((hv.drop3 (by omega)).below hbq)
  have HIB : Hid (isB bs = false) := isB_no (by omega) hk h2
  generalize rdN bs 1 = nm at *
  have HQ : Hid (false = true → (⟨1, rl, rv, ro, rp, nm, 0⟩ : Opn) = rdOpn bs) := fun h => by cases h
  have hcn : bs.length ≤ c := by
    obtain ⟨⟨a, c', e, hcap⟩, -⟩ := hv
    cases e
    omega
  rw [← hn] at hcn h4 ⊢
  have h0i : ¬ ((n : Nat) : Int) = 0 := by omega
  have h4i : ((n : Nat) : Int) > 3 := by omega
  have hc3 : ¬ c = 3 := by omega
  have HW : Hid (((w.alloc (.cells #[.int .i64 0, .string ⟨#[]⟩, .int .i64 0, .int .i64 0, .int .i64 0, .int .i64 0, .int .i64 0] 33)).alloc (.cells #[.int .i64 1, .string ⟨#[]⟩, .int .i64 0, .int .i64 0, .int .i64 0, .int .i64 0, .int .i64 0] 33)) = W) := hW.symm
  have HBW : Hid (Below w.heap.size w W) := hBW
  have HR : Hid (W.heap[w.heap.size]? = some (.cells #[.int .i64 0, .string ⟨#[]⟩, .int .i64 0, .int .i64 0, .int .i64 0, .int .i64 0, .int .i64 0] 33)) := hR
  have HX : Hid (W.heap[w.heap.size + 1]? = some (.cells #[.int .i64 1, .string ⟨#[]⟩, .int .i64 0, .int .i64 0, .int .i64 0, .int .i64 0, .int .i64 0] 33)) := hX
  have HL : Hid (w.heap.size + 1 < W.heap.size) := (Array.getElem?_eq_some_iff.1 hX).1
  unfold recV at hRd
  clear hv hB hc hn HN hk hW hBW hR hX eN hcond hsz hRe h2 hD
  go_enter Try.func53, Try.ntmps53
  go_wp2_with fail
  rw [HW.out]
  refine (hNm _ (Below.refl _ _)).mono ?_
  rintro e w1 ⟨rfl, nd, hd1⟩
  have hb1 : Below W.heap.size W w1 := by rw [hd1]; exact below_drewN (Below.refl _ _) nd
  clear hd1 hNm HW q0
  have hx1 := (hb1.block _ HL.out).trans HX.out
  have hr1 := (hb1.block w.heap.size (by have := HL.out; omega)).trans HR.out
  obtain ⟨⟨y0, y1, y2, y3, y4, y5, y6⟩, g0, g1, g2, g3, g4, g5, g6⟩ := seven_cellsO hx1
  obtain ⟨W2, hW2⟩ : ∃ W2, W2 = w1.setCell ⟨w.heap.size + 1, 5, none⟩ (.int .i64 nm) := ⟨_, rfl⟩
  have hx2 := put_five7 hx1 (.int .i64 nm)
  rw [← hW2] at hx2
  have hr2 : W2.heap[w.heap.size]? = some (.cells #[.int .i64 0, .string ⟨#[]⟩, .int .i64 0, .int .i64 0, .int .i64 0, .int .i64 0, .int .i64 0] 33) := by rw [hW2]; exact (heap_setCell_other w1 ⟨w.heap.size + 1, 5, none⟩ _ _ (by show w.heap.size ≠ w.heap.size + 1; omega)).trans hr1
  have HB2 : Hid (Below w.heap.size w W2) := (by rw [hW2]; exact (below_after_of HBW.out hb1).setCell (Nat.le_succ _) _ : Below w.heap.size w W2)
  have HW2 : Hid (w1.setCell ⟨w.heap.size + 1, 5, none⟩ (.int .i64 nm) = W2) := hW2.symm
  have hRd := hRd _ HB2.out
  clear hW2 hx1 hr1 hb1
  go_wp2_with fail
  rw [HW2.out]
  refine hRd.mono ?_
  rintro e w3 ⟨rfl, hb3⟩
  have hx3 := (hb3.block _ (Array.getElem?_eq_some_iff.1 hx2).1).trans hx2
  have hr3 := (hb3.block _ (Array.getElem?_eq_some_iff.1 hr2).1).trans hr2
  clear hRd HW2 hx2 hr2 y0 y1 y2 y3 y4 y5 y6 g0 g1 g2 g3 g4 g5 g6
  obtain ⟨⟨y0, y1, y2, y3, y4, y5, y6⟩, g0, g1, g2, g3, g4, g5, g6⟩ := seven_cellsO hx3
  obtain ⟨W4, hW4⟩ : ∃ W4, W4 = (((w3.setCell ⟨w.heap.size + 1, 1, none⟩ (.string rl)).setCell ⟨w.heap.size + 1, 2, none⟩ (.int .i64 rv)).setCell ⟨w.heap.size + 1, 3, none⟩ (.int .i64 ro)).setCell ⟨w.heap.size + 1, 4, none⟩ (.int .i64 rp) := ⟨_, rfl⟩
  have hX4 := put_rec7 hx3 (.string rl) (.int .i64 rv) (.int .i64 ro) (.int .i64 rp)
  rw [← hW4] at hX4
  have hR4 : W4.heap[w.heap.size]? = some (.cells #[.int .i64 0, .string ⟨#[]⟩, .int .i64 0, .int .i64 0, .int .i64 0, .int .i64 0, .int .i64 0] 33) := by rw [hW4]; exact (other_set4 (by omega) _ _ _ _).trans hr3
  have hcur : Below w.heap.size w W4 := by rw [hW4]; exact below_set4 (below_after_of HB2.out hb3) _ (Nat.le_succ _) _ _ _ _
  have HW4 : Hid ((((w3.setCell ⟨w.heap.size + 1, 1, none⟩ (.string rl)).setCell ⟨w.heap.size + 1, 2, none⟩ (.int .i64 rv)).setCell ⟨w.heap.size + 1, 3, none⟩ (.int .i64 ro)).setCell ⟨w.heap.size + 1, 4, none⟩ (.int .i64 rp) = W4) := hW4.symm
  clear hW4 hx3 hr3 hb3 HB2
  go_upto_region 12 with fail
  rw [HW4.out]
  clear HW4 y0 y1 y2 y3 y4 y5 y6 g0 g1 g2 g3 g4 g5 g6 HBW HR HX HL hb
  refine wp_region_held_drew (S := fun w' => ∃ n : After w, w' = n.w) (by kernel_rfl) (after_mk hcur.drew) (fun hHeld => ?_)
  have hcur := hcur.drew
  have hXV : W4.drew.heap[w.heap.size + 1]? = some (.cells #[.int .i64 1, .string rl, .int .i64 rv, .int .i64 ro, .int .i64 rp, .int .i64 nm, .int .i64 0] 33) := hX4
  have hRV : W4.drew.heap[w.heap.size]? = some (.cells #[.int .i64 0, .string ⟨#[]⟩, .int .i64 0, .int .i64 0, .int .i64 0, .int .i64 0, .int .i64 0] 33) := hR4
  clear hX4 hR4
  generalize W4.drew = V0 at *
  refine h_take (i := 1) (d := (some 49)) (v := ?vupfa) (by rfl) (by kernel_rfl) (by kernel_rfl) (by kernel_rfl) (fun _ _ _ h => h) (by rfl) ?hyupfa hHeld ?restupfa
  case hyupfa =>
    intro o ho
    simp only [List.getElem?_toArray, List.getElem?_cons_succ, List.getElem?_cons_zero, Option.some.injEq] at ho
    subst ho
    rintro _ ⟨nw, rfl⟩
    first | (go_simp; done) | (go_simp; with_reducible rfl)
  try simp only [Act.put, List.setIfInBounds_toArray, List.set_cons_zero, List.set_cons_succ]
  refine h_take (i := 2) (d := (some 50)) (v := ?vupfb) (by rfl) (by kernel_rfl) (by kernel_rfl) (by kernel_rfl) (fun _ _ _ h => h) (by rfl) ?hyupfb hHeld ?restupfb
  case hyupfb =>
    intro o ho
    simp only [List.getElem?_toArray, List.getElem?_cons_succ, List.getElem?_cons_zero, Option.some.injEq] at ho
    subst ho
    rintro _ ⟨nw, rfl⟩
    first | (go_simp; done) | (go_simp; with_reducible rfl)
  try simp only [Act.put, List.setIfInBounds_toArray, List.set_cons_zero, List.set_cons_succ]
  refine h_skip (i := 3) (d := (some 51)) (by rfl) (by kernel_rfl) (by kernel_rfl) (by kernel_rfl) (fun _ _ _ h => h) (by rfl) hHeld ?_
  try simp only [Act.put, List.setIfInBounds_toArray, List.set_cons_zero, List.set_cons_succ]
  refine h_skip (i := 4) (d := (some 52)) (by rfl) (by kernel_rfl) (by kernel_rfl) (by kernel_rfl) (fun _ _ _ h => h) (by rfl) hHeld ?_
  try simp only [Act.put, List.setIfInBounds_toArray, List.set_cons_zero, List.set_cons_succ]
  refine h_take (i := 5) (d := (some 53)) (v := ?vupfc) (by rfl) (by kernel_rfl) (by kernel_rfl) (by kernel_rfl) (fun _ _ _ h => h) (by rfl) ?hyupfc hHeld ?restupfc
  case hyupfc =>
    intro o ho
    simp only [List.getElem?_toArray, List.getElem?_cons_succ, List.getElem?_cons_zero, Option.some.injEq] at ho
    subst ho
    rintro _ ⟨nw, rfl⟩
    first | (go_simp; done) | (go_simp; with_reducible rfl)
  try simp only [Act.put, List.setIfInBounds_toArray, List.set_cons_zero, List.set_cons_succ]
  refine wpAnyH_ready (rs := [0]) (by kernel_rfl) (by simp) ?_
  refine AllReadyH.cons rfl (fun K hK => ?_) AllReadyH.nil
  obtain ⟨⟨z0, z1, z2, z3, z4, z5, z6⟩, -⟩ := seven_cellsO hXV
  go_simp
  refine hK.out _ _ (after_mk hcur) (fun hHeld => ?_)
  clear hK K
  try simp only [Act.put, List.setIfInBounds_toArray, List.set_cons_zero, List.set_cons_succ]
  clear z0 z1 z2 z3 z4 z5 z6
  refine wpAnyH_ready (rs := [6]) (by kernel_rfl) (by simp) ?_
  refine AllReadyH.cons rfl (fun K hK => ?_) AllReadyH.nil
  obtain ⟨⟨r0, r1, r2, r3, r4, r5, r6⟩, f0, f1, f2, f3, f4, f5, f6⟩ := seven_cellsO hRV
  go_simp
  have hcur := below_set7 hcur w.heap.size (Nat.le_refl _) (.int .i64 1) (.string rl) (.int .i64 rv) (.int .i64 ro) (.int .i64 rp) (.int .i64 nm) (.int .i64 0)
  refine hK.out _ _ (after_mk hcur) (fun hHeld => ?_)
  clear hK K
  try simp only [Act.put, List.setIfInBounds_toArray, List.set_cons_zero, List.set_cons_succ]
  refine h_take (i := 7) (d := (some 3)) (v := ?vupfd) (by rfl) (by kernel_rfl) (by kernel_rfl) (by kernel_rfl) (fun _ _ _ h => h) (by rfl) ?hyupfd hHeld ?restupfd
  case hyupfd =>
    intro o ho
    simp only [List.getElem?_toArray, List.getElem?_cons_succ, List.getElem?_cons_zero, Option.some.injEq] at ho
    subst ho
    rintro _ ⟨nw, rfl⟩
    first | (go_simp; done) | (go_simp; with_reducible rfl)
  try simp only [Act.put, List.setIfInBounds_toArray, List.set_cons_zero, List.set_cons_succ]
  refine wpAnyH_done (by kernel_rfl) ?_ _
  go_wp2
  exact bodyPost_ret (v := .tuple #[.agg #[.int .i64 1, .string rl, .int .i64 rv, .int .i64 ro, .int .i64 rp, .int .i64 nm, .int .i64 0], .bool false]) (by simp [results, Try.results53, go_sem, r0, r1, r2, r3, r4, r5, r6]) rfl ⟨L12.of HIB.out rfl HQ.out, hcur⟩
theorem l12Read_any (v : Value) (bs : List Int) (w : World) (hv : OffB w v bs) (hB : Bts bs) (hx : bs.length ≤ 1048576) :
    Calls Try.prog 53 #[v] w fun e w' => L12 bs e ∧ Below w.heap.size w w' := by
  by_cases h0 : 0 < bs.length
  · obtain ⟨b, off, c, rfl, hcap⟩ := hv.open h0
    by_cases hk : bs.getD 0 0 = 3
    · by_cases hn : bs.length = 3
      · exact l12Read_cp1 b off c bs w hv hB hx h0 hk hn
      · exact l12Read_cp0 b off c bs w hv hB hx h0 hk hn
    · by_cases h1 : bs.getD 0 0 = 1 ∧ 3 < bs.length
      · rcases Bool.eq_false_or_eq_true (rdB (bs.drop 3)) with h2 | h2
        · exact l12Read_up1 b off c bs w hv hB hx h1.2 h1.1 h2
        · exact l12Read_up0 b off c bs w hv hB hx h1.2 h1.1 h2
      · have h3 : (bs.getD 0 0 = 1 ∧ ¬ 3 < bs.length) ∨ (¬ bs.getD 0 0 = 1 ∧ ¬ bs.getD 0 0 = 3) := by
          by_cases h4 : bs.getD 0 0 = 1
          · exact Or.inl ⟨h4, fun h5 => h1 ⟨h4, h5⟩⟩
          · exact Or.inr ⟨h4, hk⟩
        by_cases hn : bs.length = 1
        · exact l12Read_oth1 b off c bs w hv hB hx h0 h3 hn
        · exact l12Read_oth0 b off c bs w hv hB hx h0 h3 hn
  · have e1 : bs = [] := List.eq_nil_of_length_eq_zero (by omega)
    subst e1
    obtain ⟨a, c, rfl⟩ := hv.shape
    have HIB : Hid (isB [] = false) := isB_nil
    simp only [List.length_nil] at *
    clear hv hB hx h0
    go_enter Try.func53, Try.ntmps53
    go_wp2
    exact bodyPost_ret (v := .tuple #[.agg #[.int .i64 0, .string ⟨#[]⟩, .int .i64 0, .int .i64 0, .int .i64 0, .int .i64 0, .int .i64 0], .bool false]) (by simp [results, Try.results53, go_sem]) rfl ⟨L12.of (x := opZ 0) HIB.out rfl (fun h => by cases h), one_new _⟩
end U
end Go.Proofs.Ytcdodpcdennemaa

/- ReadOp, the model's. -/
namespace Go.Proofs.Ytcdodpcdennemaa
open Go.RowKit
namespace U
set_option maxRecDepth 100000 in
set_option maxHeartbeats 2000000 in
theorem specReadOp_any (v : Value) (bs : List Int) (w : World) (hv : OffB w v bs) (hB : Bts bs) (hx : bs.length ≤ 1048576) :
    Calls Try.prog 17 #[v] w fun e w' => e = .returned (rdoV bs) ∧ Below w.heap.size w w' := by
  obtain ⟨a, c0, rfl⟩ := hv.shape
  obtain ⟨W, hW⟩ : ∃ W, W = w.alloc (.cells #[.int .i64 0, .int .i64 0, .string ⟨#[]⟩, .int .i64 0, .int .i64 0, .int .i64 0, .int .i64 0, .int .i64 0] 39) := ⟨_, rfl⟩
  have hBW : Below w.heap.size w W := by rw [hW]; exact one_new _
  have HBW : Hid (Below w.heap.size w W) := hBW
  have HR : Hid (W.heap[w.heap.size]? = some (.cells #[.int .i64 0, .int .i64 0, .string ⟨#[]⟩, .int .i64 0, .int .i64 0, .int .i64 0, .int .i64 0, .int .i64 0] 39)) := (by rw [hW]; exact heap_alloc_new w _ : W.heap[w.heap.size]? = some (.cells #[.int .i64 0, .int .i64 0, .string ⟨#[]⟩, .int .i64 0, .int .i64 0, .int .i64 0, .int .i64 0, .int .i64 0] 39))
  have HL : Hid (w.heap.size < W.heap.size) := (Array.getElem?_eq_some_iff.1 HR.out).1
  have HW : Hid (w.alloc (.cells #[.int .i64 0, .int .i64 0, .string ⟨#[]⟩, .int .i64 0, .int .i64 0, .int .i64 0, .int .i64 0, .int .i64 0] 39) = W) := hW.symm
  have hO := l12Read_any _ bs W (hv.below hBW) hB hx
  clear hW hv hBW hB hx
  go_enter Try.func17, Try.ntmps17
  go_wp2_with fail
  rw [HW.out]
  refine hO.mono ?_
  rintro e w1 ⟨⟨⟨k, l, vv, oo, pp, ss, nn⟩, rfl, hxq⟩, hb1⟩
  clear hO HW
  unfold opnV opV
  dsimp only
  have hb4 : Below w.heap.size w (w1.alloc (.cells #[.int .i64 k, .string l, .int .i64 vv, .int .i64 oo, .int .i64 pp, .int .i64 ss, .int .i64 nn] 33)) := below_after_of HBW.out (below_after_of hb1 (one_new _))
  have hR4 : (w1.alloc (.cells #[.int .i64 k, .string l, .int .i64 vv, .int .i64 oo, .int .i64 pp, .int .i64 ss, .int .i64 nn] 33)).heap[w.heap.size]? = some (.cells #[.int .i64 0, .int .i64 0, .string ⟨#[]⟩, .int .i64 0, .int .i64 0, .int .i64 0, .int .i64 0, .int .i64 0] 39) := heap_alloc_old' _ _ _ ((hb1.block _ HL.out).trans HR.out)
  have hrT : isB bs = true → rdoV bs = oprV 0 k l vv oo pp ss nn := fun h => by
    unfold rdoV
    rw [if_pos h, ← hxq h]
    rfl
  have hrF : isB bs = false → rdoV bs = oprV 5 0 ⟨#[]⟩ 0 0 0 0 0 := fun h => by
    unfold rdoV
    rw [h]
    rfl
  clear hxq hb1 HBW HR HL
  generalize isB bs = q at *
  cases q
  · have hr : rdoV bs = oprV 5 0 ⟨#[]⟩ 0 0 0 0 0 := hrF rfl
    clear hrT hrF
    obtain ⟨⟨r0, r1, r2, r3, r4, r5, r6, r7⟩, f0, f1, f2, f3, f4, f5, f6, f7⟩ := eight_cellsO hR4
    clear hR4
    go_wp2
    exact bodyPost_ret (v := .agg #[.int .i64 5, .int .i64 0, .string ⟨#[]⟩, .int .i64 0, .int .i64 0, .int .i64 0, .int .i64 0, .int .i64 0]) (by simp [results, Try.results17, go_sem, r0, r1, r2, r3, r4, r5, r6, r7]) rfl ⟨by rw [hr]; rfl, below_set8 hb4 _ (Nat.le_refl _) _ _ _ _ _ _ _ _⟩
  · have hr : rdoV bs = oprV 0 k l vv oo pp ss nn := hrT rfl
    clear hrT hrF
    obtain ⟨⟨r0, r1, r2, r3, r4, r5, r6, r7⟩, f0, f1, f2, f3, f4, f5, f6, f7⟩ := eight_cellsO hR4
    clear hR4
    go_wp2
    exact bodyPost_ret (v := .agg #[.int .i64 0, .int .i64 k, .string l, .int .i64 vv, .int .i64 oo, .int .i64 pp, .int .i64 ss, .int .i64 nn]) (by simp [results, Try.results17, go_sem, r0, r1, r2, r3, r4, r5, r6, r7]) rfl ⟨by rw [hr]; rfl, below_set8 hb4 _ (Nat.le_refl _) _ _ _ _ _ _ _ _⟩
end U
end Go.Proofs.Ytcdodpcdennemaa

/- Rows of one's own over what grows elsewhere. -/
namespace Go.Proofs.Ytcdodpcdennemaa
open Go.RowKit
namespace U
theorem own_ints_n {k : IntKind} {w : World} {B n : Nat} {e : TypeId} {v : Value} {xs : List Int} (HN : n = xs.length) (h : w.ownsRow B e 1 v n (xs.map (Value.int k))) : Ints k w v xs := by
  subst HN; exact own_ints h
theorem own_grown {w w' : World} {B n size : Nat} {e : TypeId} {v : Value} {xs : List Value} {row : Option Nat} (h : w.ownsRow B e size v n xs) (hg : w.grownBy w' row) (hne : v.ownBlock = none ∨ v.ownBlock ≠ row) : w'.ownsRow B e size v n xs := by
  refine ⟨h.1, ?_⟩
  rcases h.2 with h2 | ⟨g, cap, cur, rfl, h3, h4, h5⟩
  · exact Or.inl h2
  · refine Or.inr ⟨g, cap, cur, rfl, h3, (hg.block g (Array.getElem?_eq_some_iff.1 h4).1 ?_).trans h4, h5⟩
    rcases hne with hne | hne
    · simp [Value.ownBlock] at hne
    · exact hne
theorem apart_lt {v u : Value} (h : ∀ k, v.ownBlock = some k → ∀ j, u.ownBlock = some j → k < j) : v.ownBlock = none ∨ v.ownBlock ≠ u.ownBlock := by
  rcases hk : v.ownBlock with _ | k
  · exact Or.inl rfl
  · right
    intro e
    have := h k hk k e.symm
    omega
theorem apart_gt {v u : Value} (h : ∀ k, v.ownBlock = some k → ∀ j, u.ownBlock = some j → j < k) : v.ownBlock = none ∨ v.ownBlock ≠ u.ownBlock := by
  rcases hk : v.ownBlock with _ | k
  · exact Or.inl rfl
  · right
    intro e
    have := h k hk k e.symm
    omega
end U
end Go.Proofs.Ytcdodpcdennemaa

/- The law on ReadOp, walked: true, and nothing that was there has turned. -/
namespace Go.Proofs.Ytcdodpcdennemaa
open Go.RowKit
namespace U
theorem own_offB {w : World} {B n : Nat} {e : TypeId} {a : Option Addr} {c : Nat} {bs : List Int} (hn : n = bs.length) (h : w.ownsRow B e 1 (.slice a n c) n (bs.map (Value.int .u8))) : OffB w (.slice a n c) bs := by
  subst hn
  refine ⟨⟨a, c, rfl, ?_⟩, own_ints h⟩
  rcases h.2 with ⟨e, hn⟩ | ⟨g, cap, cur, e, _, _, hc, _⟩
  · omega
  · cases e
    omega
set_option maxRecDepth 100000 in
set_option maxHeartbeats 4000000 in
theorem fnExactReadOp_small (v : Value) (bs : List Int) (w : World) (hv : Ints .u8 w v bs) (hx : bs.length ≤ 1048576) (hB : Bts bs) :
    Calls Try.prog 4 #[v] w fun e w' => e = .returned (.bool true) ∧ Below w.heap.size w w' := by
  obtain ⟨a, k, rfl⟩ := hv.shape
  have hS := fun w u h => specReadOp_any u bs w h hB hx
  have hI := fun w u h => implReadOp_any u bs w h hB hx
  have hT := fun w (h : Ints .u8 w (.slice a bs.length k) bs) => toByteS_any _ bs w h hx
  have hE := fun v u w h1 h2 => eqByteS_any v u bs bs w h1 h2 (by omega) (by omega)
  have h2 : decide (bs = bs) = true := by simp
  rw [h2] at hE
  obtain ⟨c, k0, l0, v0, o0, p0, s0, n0, hr⟩ := rdoV_res bs
  rw [hr] at hS hI
  unfold oprV at hS hI
  have HV : Hid (∀ w', Below w.heap.size w w' → Ints .u8 w' (.slice a bs.length k) bs) := fun w' h => hv.below h
  have hQ := fun w => eqOpResult_same c k0 l0 v0 o0 p0 s0 n0 w
  unfold oprV at hQ
  obtain ⟨n, hn⟩ : ∃ n, n = bs.length := ⟨_, rfl⟩
  have HN : Hid (n = bs.length) := hn
  rw [← hn] at hx HV hT ⊢
  clear hn h2 hv hr
  go_enter Try.func4, Try.ntmps4
  go_wp2_with fail
  refine (hT _ (HV.out _ (Below.refl _ _))).mono ?_
  rintro e w1 ⟨a1, k1, rfl, hb1, own1⟩
  go_wp2_with fail
  refine (hS _ _ (own_offB HN.out own1)).mono ?_
  rintro e w2 ⟨rfl, hb2⟩
  have hB2 := below_after_of (below_after_of hb1 hb2) (one_new (.cells #[.int .i64 c, .int .i64 k0, .string l0, .int .i64 v0, .int .i64 o0, .int .i64 p0, .int .i64 s0, .int .i64 n0] 39))
  have P2 := heap_alloc_new w2 (.cells #[.int .i64 c, .int .i64 k0, .string l0, .int .i64 v0, .int .i64 o0, .int .i64 p0, .int .i64 s0, .int .i64 n0] 39)
  clear hb1 hb2 own1 hS
  go_wp2_with fail
  refine (hT _ (HV.out _ hB2)).mono ?_
  rintro e w3 ⟨a3, k3, rfl, hb3, own3⟩
  go_wp2_with fail
  refine (hI _ _ (own_offB HN.out own3)).mono ?_
  rintro e w4 ⟨rfl, hb4⟩
  have hb4' := below_after_of hb4 (one_new (.cells #[.int .i64 c, .int .i64 k0, .string l0, .int .i64 v0, .int .i64 o0, .int .i64 p0, .int .i64 s0, .int .i64 n0] 39))
  have hb34 := below_after_of hb3 hb4'
  obtain ⟨⟨y0, y1, y2, y3, y4, y5, y6, y7⟩, -⟩ := eight_cellsO ((hb34.block w2.heap.size (Array.getElem?_eq_some_iff.1 P2).1).trans P2)
  have hB4 := below_after_of hB2 hb34
  have own4 := own_below own3 hb4'
  clear hb3 hb4 hb4' hb34 own3 hB2 P2 hI
  go_wp2_with fail
  refine (hQ _).mono ?_
  rintro e w5 ⟨rfl, hb5⟩
  have hB5 := below_after_of hB4 hb5
  have own5 := own_below own4 hb5
  clear hb5 own4 hB4 y0 y1 y2 y3 y4 y5 y6 y7
  go_wp2_with fail
  refine (hT _ (HV.out _ hB5)).mono ?_
  rintro e w6 ⟨a6, k6, rfl, hb6, own6⟩
  have hB6 := below_after_of hB5 hb6
  have own5' := own_below own5 hb6
  clear own5 hb6 hB5
  go_wp2_with fail
  refine (hE _ _ _ (own_ints_n HN.out own5') (own_ints_n HN.out own6)).mono ?_
  rintro e w7 ⟨rfl, n7, rfl⟩
  go_wp2
  go_ret
  exact ⟨rfl, below_drewN hB6 n7⟩
set_option maxRecDepth 100000 in
set_option maxHeartbeats 1000000 in
theorem fnExactReadOp_walk (v : Value) (bs : List Int) (w : World) (hv : Ints .u8 w v bs) (hx : bs.length ≤ maxLen) (hB : ∀ b ∈ bs, 0 ≤ b ∧ b ≤ 255) :
    Calls Try.prog 4 #[v] w fun e w' => e = .returned (.bool true) ∧ Below w.heap.size w w' := by
  by_cases h : bs.length ≤ 1048576
  · exact fnExactReadOp_small v bs w hv h hB
  · obtain ⟨a, c, rfl⟩ := hv.shape
    clear hv
    unfold maxLen at hx
    generalize bs.length = n at *
    go_enter Try.func4, Try.ntmps4
    go_wp2
    go_ret
    exact ⟨rfl, Below.refl _ _⟩
end U
end Go.Proofs.Ytcdodpcdennemaa

/- What every law's row asks behind its walk: the arguments and the named variables read as they did, for nothing that was there has turned. -/
namespace Go.Proofs.Ytcdodpcdennemaa
namespace U
open Go.ChangeShapes Go.WideShapes Go.ChangeAt Go.RowKit
section
variable {H : Type} {enc : TypeId × Value → H} {P : Program} {W W' : World}
theorem all_stays (hl : laidOutB P = true) (hb : Below W.heap.size W W') : ∀ (ts : List TypeId) (vs : List Value) (ds : List (DataW H)) (ps : List MemPlace), (∀ t ∈ ts, P.readableRec t = true ∧ t < P.types.size) →
    DataW.TrodAll enc P W 0 (fun _ => true) true ts vs ds ps → (∀ x ∈ ps, x.block < W.heap.size) → DataW.TrodAll enc P W' 0 (fun b => decide (b < W.heap.size)) true ts vs ds ps
  | [], [], [], _, _, h, _ => h
  | t :: ts, v :: vs, d :: ds, ps, ht, h, hlt => by
    obtain ⟨p, q, h1, h2, rfl⟩ := h
    have hp := ht t (by simp)
    exact ⟨p, q, Below.trod hl hp.1 hp.2 h1 hb (fun x hx => hlt x (by simp [hx])), all_stays hl hb ts vs ds q (fun t h => ht t (by simp [h])) h2 (fun x hx => hlt x (by simp [hx])), rfl⟩
  | [], [], _ :: _, _, _, h, _ => h.elim
  | [], _ :: _, _, _, _, h, _ => by cases h
  | _ :: _, [], _, _, _, h, _ => by cases h
  | _ :: _, _ :: _, [], _, _, h, _ => h.elim
theorem vars_stay (hl : laidOutB P = true) (hb : Below W.heap.size W W') : ∀ (ns : List String) (ds : List (DataW H)) (ps : List MemPlace), (∀ n ∈ ns, ∀ g t, P.globalNamed n = some g → (P.globals[g]?).map (·.type) = some t → P.readableRec t = true ∧ t < P.types.size) →
    DataW.TrodVars enc P W (fun _ => true) ns ds ps → (∀ x ∈ ps, x.block < W.heap.size) → DataW.TrodVars enc P W' (fun b => decide (b < W.heap.size)) ns ds ps
  | [], [], _, _, h, _ => h
  | n :: ns, d :: ds, ps, ht, h, hlt => by
    obtain ⟨g, t, cs, fuel, p, q, h1, h2, h3, h4, h5, rfl⟩ := h
    have hp := ht n (by simp) g t h1 h2
    have hg : g < W.heap.size := by
      have h3' := h3
      simp only [World.var?, h1, Option.bind_some] at h3'
      rcases hh : W.heap[g]? with _ | o
      · rw [hh] at h3'; cases h3'
      · exact (Array.getElem?_eq_some_iff.1 hh).1
    refine ⟨g, t, cs, fuel, p, q, h1, h2, var?_below hb h1 hg h3, ?_, vars_stay hl hb ns ds q (fun m hm => ht m (by simp [hm])) h5 (fun x hx => hlt x (by simp [hx])), rfl⟩
    exact DataW.trod_stays (kids_book hl hp.1) (book_sized hp.1) (fun h => by cases h) ⟨hp.2, book_self t⟩ h4 (fun x hx => hb.same (hlt x (by simp [hx]))) (fun x hx => by simpa using hlt x (by simp [hx]))
  | [], _ :: _, _, _, h, _ => h.elim
  | _ :: _, [], _, _, h, _ => h.elim
/-- A law that answered true and turned nothing. -/
theorem law_post {f : Func} {s : ChangeSpec} {apart : Bool} {args : Array Value} {ds gs : List (DataW H)} {before : List MemPlace} {tb : TypeId}
    (hW : DataW.Whole enc P f.params.toList s.vars apart W args.toList ds gs before) (hb : Below W.heap.size W W') (hl : laidOutB P = true)
    (ht : ∀ t ∈ f.params.toList, P.readableRec t = true ∧ t < P.types.size)
    (hv : ∀ n ∈ s.vars, ∀ g t, P.globalNamed n = some g → (P.globals[g]?).map (·.type) = some t → P.readableRec t = true ∧ t < P.types.size)
    (hr : f.resultTypes = #[tb]) (htb : P.underlying tb = some .bool)
    (hf1 : (s.fn H (ds ++ gs)).results = [.lit (.bool true)]) (hf2 : (s.fn H (ds ++ gs)).args = ds) (hf3 : (s.fn H (ds ++ gs)).vars = gs) :
    s.post enc P f apart true false false W args (.bool true) W' := by
  have hlt := hW.lt
  have hW2 := hW
  obtain ⟨p, q, hA, hV, rfl, _, _⟩ := hW
  refine ⟨ds, gs, p ++ q, [], p, q, hW2, ?_, ?_, ?_, hb.frame _, fun h => by cases h⟩
  · rw [hf1, hr]
    exact trodAll_cons_mk (shut_bool htb _) trodAll_mk0
  · rw [hf2]
    exact all_stays hl hb _ _ _ _ ht hA (fun x hx => hlt x (by simp [hx]))
  · rw [hf3]
    exact vars_stay hl hb _ _ _ hv hV (fun x hx => hlt x (by simp [hx]))
end
end U
end Go.Proofs.Ytcdodpcdennemaa

/- An argument that is a slice of numbers, opened: it reads as a list. -/
namespace Go.Proofs.Ytcdodpcdennemaa
namespace U
open Go.ChangeShapes Go.WideShapes Go.ChangeAt Go.RowKit
theorem ints_arg {H : Type} {enc : TypeId × Value → H} {P : Program} {W : World} {base : Nat} {t e : TypeId} {k : IntKind} {v : Value} {d : DataW H} {p : List MemPlace} (ht : P.underlying t = some (.slice e)) (he : P.underlying e = some (.int k)) (hce : P.cellsOf e = 1)
    (hv : Value.okWide P W .any base t v) (h : DataW.Trod enc P W 0 (fun _ => true) true t v d p) : ∃ xs, Ints k W v xs ∧ xs.length ≤ maxLen ∧ ∀ n ∈ xs, (Lit.int k n).wf = true := by
  obtain ⟨a0, len, cap, rfl⟩ := okWide_slice ht hv
  obtain ⟨fuel, hf⟩ := h
  rcases open_ints ht he hce hf with ⟨hcs, hx⟩ | ⟨a, len', cap', zs, hcs, h1, hl, hm, hz, hx, hcell, hwz⟩
  · have e1 : (Value.slice a0 len cap) = .slice none 0 0 := by simpa [Value.cells] using hcs
    cases e1
    exact ⟨[], Or.inl ⟨rfl, none, 0, rfl⟩, by simp, by simp⟩
  · have e1 : (Value.slice a0 len cap) = .slice (some a) len' cap' := by simpa [Value.cells] using hcs
    cases e1
    rw [if_pos rfl] at hz
    by_cases h0 : len = 0
    · subst h0
      exact ⟨[], Or.inl ⟨rfl, _, _, rfl⟩, by simp, by simp⟩
    · obtain ⟨b, off, rfl, hc⟩ := ints_at hcell (by omega)
      have hlen : (zs.take len).length = len := by rw [List.length_take]; omega
      have hb : b < W.heap.size := by
        have := hc 0 (by omega)
        rcases hh : W.heap[b]? with _ | o
        · simp [World.cell?, hh] at this
        · exact (Array.getElem?_eq_some_iff.1 hh).1
      refine ⟨zs.take len, Or.inr ⟨b, off, cap, by rw [hlen], hb, fun j hj => ?_⟩, by omega, fun n hn => hwz n (List.mem_of_mem_take hn)⟩
      rw [hlen] at hj
      rw [hc j (by omega)]
      congr 2
      simp only [List.getD_eq_getElem?_getD, List.getElem?_take, if_pos hj]
end U
end Go.Proofs.Ytcdodpcdennemaa

/- The law FnExactReadOp holds at every list of bytes: it answers true, and the list reads as it did. -/
namespace Go.Proofs.Ytcdodpcdennemaa
namespace fnExactReadOp
open Go.ChangeShapes Go.WideShapes Go.ChangeAt Go.RowKit

theorem laidOut : laidOutB Try.prog = true := by kernel_rfl
theorem own : ownKnob Try.prog.godebug = none := by kernel_rfl

set_option maxRecDepth 100000 in
theorem lifted (os : Os) (started : os.Started) (H : Type) (enc : TypeId × Value → H) :
    ReturnsInHanded {} Try.checked os 4 .any (Rows.fnExactReadOpSpec.pre6 enc Try.prog Try.f4 Rows.fnExactReadOpRow.domain false) (Rows.fnExactReadOpSpec.post enc Try.prog Try.f4 false true false false) := by
  refine returnsInHanded_of_change (C := Try.checked) own started (by kernel_rfl) Try.func4
    (ChangeSpec.witness6 (enc := enc) (C := Try.checked) false ⟨#[], #[.slice none 0 0], []⟩ 8 (by kernel_rfl) (by kernel_rfl) (by kernel_rfl) (by kernel_rfl)) ?_
  intro W base args ds gs before hval0 hW hcnd _
  have hval : ∀ (j : Nat) t v, Try.f4.params[j]? = some t → args[j]? = some v → Value.okWide Try.prog W .any base t v := hval0
  have hW' := hW
  obtain ⟨p, q, hA0, hV, rfl, hfz, hnd⟩ := hW
  have hA : DataW.TrodAll enc Try.prog W 0 (fun _ => true) true Try.f4.params.toList args.toList ds p := hA0
  rw [Try.params4] at hA hval
  obtain ⟨v0, vs0, d0, ds0, p0, q0, hargs, rfl, rfl, h0, r0⟩ := trodAll_cons hA
  obtain ⟨rfl, rfl, rfl⟩ := trodAll_nil r0
  obtain rfl : args = #[v0] := by cases args; simp_all
  obtain ⟨rfl, rfl⟩ := trodVars_none hV
  obtain ⟨xs0, hxs0, hlen0, hwf0⟩ := U.ints_arg Try.underlying27 Try.underlying5 (by kernel_rfl) (hval 0 27 v0 rfl rfl) h0
  clear hA0 hval0
  refine (U.fnExactReadOp_walk v0 xs0 W hxs0 hlen0 (fun b hb => bounds_u8 (hwf0 b hb))).mono fun e W' ⟨he, hg⟩ => ?_
  subst he
  refine ⟨_, rfl, U.law_post (tb := 4) hW' hg laidOut ?_ (fun n hn => by cases hn) (by kernel_rfl) Try.underlying4 rfl rfl rfl⟩
  rw [Try.params4]; intro t ht; simp at ht; subst ht; exact ⟨by kernel_rfl, of_decide_eq_true (by kernel_rfl)⟩

theorem over : Rows.fnExactReadOpRow.holds Try.pinned (OpenSpec.ofChange Rows.fnExactReadOpSpec) :=
  OpenClaim.holds_of_wide 4 Try.f4 rfl rfl rfl rfl rfl rfl rfl ⟨rfl, rfl, rfl, rfl, rfl⟩ rfl rfl rfl rfl rfl (by kernel_rfl) Try.func4 (by kernel_rfl)
    (of_decide_eq_true (by kernel_rfl)) (by unfold Func.isWrapper; first | (rw [if_pos (by decide +kernel)]; kernel_rfl) | (rw [if_neg (by decide +kernel)]; exact ⟨rfl, rfl⟩))
    (fun os started H enc _ => lifted os started H enc)
end fnExactReadOp
/-- The law FnExactReadOp: whatever the arguments, the call returns true and they read as before. -/
theorem fnExactReadOp_holds : Rows.FnExactReadOpSaid := fnExactReadOp.over
#print axioms fnExactReadOp_holds
end Go.Proofs.Ytcdodpcdennemaa
