/- A record out of bytes that lie at an offset: what the model reads. -/
import Derived.Test.YtcdodpcdennemaaRead2a
namespace Go.Proofs.Ytcdodpcdennemaa
open Go.RowKit
namespace U
/-- Bytes that a slice reads as, wherever it begins. -/
def OffB (w : World) (v : Value) (bs : List Int) : Prop := (∃ a c, v = .slice a bs.length c ∧ bs.length ≤ c) ∧ Ints .u8 w v bs
theorem OffB.shape {w : World} {v : Value} {bs : List Int} (h : OffB w v bs) : ∃ a c, v = .slice a bs.length c := by
  obtain ⟨⟨a, c, e, -⟩, -⟩ := h
  exact ⟨a, c, e⟩
theorem OffB.ints {w : World} {v : Value} {bs : List Int} (h : OffB w v bs) : Ints .u8 w v bs := h.2
theorem OffB.below {w w' : World} {v : Value} {bs : List Int} (h : OffB w v bs) (hb : Below w.heap.size w w') : OffB w' v bs := ⟨h.1, h.2.below hb⟩
theorem OffB.open {w : World} {v : Value} {bs : List Int} (h : OffB w v bs) (h0 : 0 < bs.length) : ∃ b off cap, v = .slice (some ⟨b, off, none⟩) bs.length cap ∧ bs.length ≤ cap := by
  obtain ⟨⟨a, c, rfl, hc⟩, hI⟩ := h
  obtain ⟨-, b, off, rfl, -⟩ := hI.at h0
  exact ⟨b, off, c, rfl, hc⟩
set_option maxRecDepth 100000 in
set_option maxHeartbeats 4000000 in
theorem l3Read_noO (v : Value) (bs : List Int) (w : World) (hv : OffB w v bs) (hB : Bts bs) (hx : bs.length ≤ 1048576) (hs : shapeB bs = false) :
    Calls Try.prog 93 #[v] w fun e w' => e = .returned (.tuple #[recV ⟨#[]⟩ 0 0 0, .bool false]) ∧ Below w.heap.size w w' := by
  obtain ⟨a, c, rfl⟩ := hv.shape
  have hI := hv.ints
  by_cases h8 : bs.length < 8
  · generalize bs.length = n at *
    clear hv hI hs
    have h8' : (n : Int) < 8 := by omega
    go_enter Try.func93, Try.ntmps93
    go_wp2
    exact bodyPost_ret (v := .tuple #[recV ⟨#[]⟩ 0 0 0, .bool false]) (by simp [results, Try.results93, go_sem, recV]) rfl ⟨rfl, one_new _⟩
  · obtain ⟨-, b, off, rfl, hb, hc⟩ := hI.at (by omega)
    have q0 := ((one_new (.cells #[.string ⟨#[]⟩, .int .i64 0, .int .i64 0, .int .i64 0] 31)).cell (p := ⟨b, off + 0, none⟩) hb).trans (hc 0 (by omega))
    have q1 := ((one_new (.cells #[.string ⟨#[]⟩, .int .i64 0, .int .i64 0, .int .i64 0] 31)).cell (p := ⟨b, off + 1, none⟩) hb).trans (hc 1 (by omega))
    have e1 := hB.at (k := 1) (by omega)
    have hs' : ¬ (bs.getD 0 0 = 1 ∧ (bs.length : Int) = 8 + bs.getD 1 0) := by
      unfold shapeB at hs
      rw [decide_eq_false_iff_not] at hs
      exact fun h => hs ⟨by omega, h⟩
    rw [Nat.add_zero] at q0
    have h8' : ¬ (bs.length : Int) < 8 := by omega
    generalize bs.getD 0 0 = x at *
    generalize bs.getD 1 0 = y at *
    generalize bs.length = n at *
    clear hv hI hs hc hB
    have hw : IntKind.i64.wrap (8 + y) = 8 + y := by rw [IntKind.wrap_i64]; omega
    by_cases hx1 : x = 1
    · subst hx1
      have hn1 : ¬ (n : Int) = 8 + y := fun e => hs' ⟨rfl, e⟩
      have hn2 : ((n : Int) != 8 + y) = true := by simpa using hn1
      go_enter Try.func93, Try.ntmps93
      go_wp2
      exact bodyPost_ret (v := .tuple #[recV ⟨#[]⟩ 0 0 0, .bool false]) (by simp [results, Try.results93, go_sem, recV]) rfl ⟨rfl, one_new _⟩
    · have hx2 : (x != 1) = true := by simpa using hx1
      go_enter Try.func93, Try.ntmps93
      go_wp2
      exact bodyPost_ret (v := .tuple #[recV ⟨#[]⟩ 0 0 0, .bool false]) (by simp [results, Try.results93, go_sem, recV]) rfl ⟨rfl, one_new _⟩
set_option maxRecDepth 100000 in
set_option maxHeartbeats 8000000 in
theorem l3Read_yesO (v : Value) (bs : List Int) (w : World) (hv : OffB w v bs) (hB : Bts bs) (hx : bs.length ≤ 1048576) (hs : shapeB bs = true) :
    Calls Try.prog 93 #[v] w fun e w' => e = .returned (.tuple #[recV (rdL bs) (rdN bs (2 + rdM bs)) (rdN bs (2 + rdM bs + 2)) (rdN bs (2 + rdM bs + 4)), .bool (rdC bs == 0)]) ∧ Below w.heap.size w w' := by
  have hS := shape_of hB hs
  have hsz := rdL_len hS
  obtain ⟨m, hm⟩ : ∃ m, m = rdM bs := ⟨_, rfl⟩
  rw [← hm] at hS hsz ⊢
  have hlen := hS.len
  obtain ⟨b, off, cap, rfl, hcap⟩ := hv.open (by omega)
  have hI := hv.ints
  obtain ⟨-, b', off', e, hb, hc⟩ := hI.at (by omega)
  cases e
  have q0 := ((one_new (.cells #[.string ⟨#[]⟩, .int .i64 0, .int .i64 0, .int .i64 0] 31)).cell (p := ⟨b, off + 0, none⟩) hb).trans (hc 0 (by omega))
  have q1 := ((one_new (.cells #[.string ⟨#[]⟩, .int .i64 0, .int .i64 0, .int .i64 0] 31)).cell (p := ⟨b, off + 1, none⟩) hb).trans (hc 1 (by omega))
  rw [hS.h0, Nat.add_zero] at q0
  rw [hS.h1] at q1
  have hcv : ∀ w', Below w.heap.size w w' → (convert 27 9 (.slice (some ⟨b, off + 2, none⟩) (((2 + m : Nat) : Int).toNat - 2) (cap - 2))).run Try.prog w' = .ok (.string (rdL bs)) w' := fun w' hI' => by
    rw [show ((2 + m : Nat) : Int).toNat - 2 = m by omega]
    have := conv_str (P := Try.prog) 27 9 Try.underlying27 Try.underlying5 Try.underlying9 (hS.sub (hI.below hI') (cap - 2)) (hB.sub m)
    rw [show rdL bs = sOf ((bs.drop 2).take m) by unfold rdL; rw [hm]]
    simpa using this
  have hT : ∀ (K : Int) (w' : World), OkAt bs.length K → Below w.heap.size w w' → Calls Try.prog 92 #[.slice (some ⟨b, off, none⟩) bs.length cap, .int .i64 K] w' fun e w'' => e = .returned (.int .i64 (rdN bs K.toNat)) ∧ ∃ n, w'' = w'.drewN n := fun K w' hk hI' => by
    obtain ⟨k, rfl⟩ := Int.eq_ofNat_of_zero_le hk.1
    have hk := hk.2
    rw [Int.toNat_natCast] at hk ⊢
    obtain ⟨-, b', off', e, hb, hc⟩ := (hI.below hI').at (by omega)
    cases e
    exact l3Two_any b off cap bs.length k _ _ w' hk (by omega) (hc k (by omega)) (hc (k + 1) hk) (hB.at (by omega)) (hB.at hk)
  have HC : Hid (rdC bs = recC (rdL bs) (rdN bs (2 + m)) (rdN bs (2 + m + 2)) (rdN bs (2 + m + 4))) := by unfold rdC; rw [hm]; rfl
  generalize rdC bs = rc at *
  generalize rdL bs = l at *
  have hml : m ≤ 255 := by have := hB.at (k := 1) (by omega); rw [hS.h1] at this; omega
  rw [hlen] at hI hT hcap ⊢
  have hw : IntKind.i64.wrap (8 + (m : Int)) = 8 + m := by rw [IntKind.wrap_i64]; omega
  have hw2 : IntKind.i64.wrap (2 + (m : Int)) = ((2 + m : Nat) : Int) := by rw [IntKind.wrap_i64]; omega
  have hw3 : IntKind.i64.wrap (((2 + m : Nat) : Int) + 2) = ((2 + m + 2 : Nat) : Int) := by rw [IntKind.wrap_i64]; omega
  have hw4 : IntKind.i64.wrap (((2 + m : Nat) : Int) + 4) = ((2 + m + 4 : Nat) : Int) := by rw [IntKind.wrap_i64]; omega
  have s1 : (2 : Int) ≤ ((2 + m : Nat) : Int) := by omega
  have s3 : (0 : Int) ≤ ((2 + m : Nat) : Int) := by omega
  have s0 : ¬ cap = 2 := by omega
  have s2 : ((2 + m : Nat) : Int) ≤ (cap : Int) := by omega
  have p0 : OkAt (8 + m) ((2 + m : Nat) : Int) := ⟨by omega, by omega⟩
  have p1 : OkAt (8 + m) ((2 + m + 2 : Nat) : Int) := ⟨by omega, by omega⟩
  have p2 : OkAt (8 + m) ((2 + m + 4 : Nat) : Int) := ⟨by omega, by omega⟩
  have n0 : rdN bs (((2 + m : Nat) : Int).toNat) = rdN bs (2 + m) := by rw [Int.toNat_natCast]
  have n1 : rdN bs (((2 + m + 2 : Nat) : Int).toNat) = rdN bs (2 + m + 2) := by rw [Int.toNat_natCast]
  have n2 : rdN bs (((2 + m + 4 : Nat) : Int).toNat) = rdN bs (2 + m + 4) := by rw [Int.toNat_natCast]
  generalize rdN bs (2 + m) = nv at *
  generalize rdN bs (2 + m + 2) = no at *
  generalize rdN bs (2 + m + 4) = np at *
  generalize ((2 + m : Nat) : Int) = k0 at *
  generalize ((2 + m + 2 : Nat) : Int) = k1 at *
  generalize ((2 + m + 4 : Nat) : Int) = k2 at *
  have hI0 := hI.below (one_new (.cells #[.string ⟨#[]⟩, .int .i64 0, .int .i64 0, .int .i64 0] 31))
  clear hv hc hS hlen hm hb
  go_enter Try.func93, Try.ntmps93
  go_wp2
  refine Code.wp_mono (Q := EndsAt { tmps := #[(.slice (some ⟨b, off, none⟩) (8 + m) cap), undef, .pointer (some ⟨w.heap.size, 0, none⟩), .bool false, .int .i64 k0, .pointer (some ⟨w.heap.size + 1, 0, none⟩), (.slice (some ⟨b, off, none⟩) (8 + m) cap), .int .i64 (8 + (m : Int)), .bool (decide (8 + (m : Int) < 8)), .bool (decide (8 + (m : Int) < 8)), (.slice (some ⟨b, off, none⟩) (8 + m) cap), .pointer (some ⟨b, off, none⟩), .int .u8 1, .bool false, .bool (decide (8 + (m : Int) < 8)), .bool (decide (8 + (m : Int) < 8)), (.slice (some ⟨b, off, none⟩) (8 + m) cap), .int .i64 (8 + (m : Int)), (.slice (some ⟨b, off, none⟩) (8 + m) cap), .pointer (some ⟨b, off + 1, none⟩), .int .u8 (m : Int), .int .i64 (m : Int), .int .i64 (8 + (m : Int)), .bool false, .bool (decide (8 + (m : Int) < 8)), undef, (.slice (some ⟨b, off, none⟩) (8 + m) cap), .pointer (some ⟨b, off + 1, none⟩), .int .u8 (m : Int), .int .i64 (m : Int), .int .i64 k0, (.slice (some ⟨b, off, none⟩) (8 + m) cap), .int .i64 k0, .slice (some ⟨b, off + 2, none⟩) (k0.toNat - 2) (cap - 2), .string l, (.slice (some ⟨b, off, none⟩) (8 + m) cap), .int .i64 k0, .int .i64 nv, (.slice (some ⟨b, off, none⟩) (8 + m) cap), .int .i64 k0, .int .i64 k1, .int .i64 no, (.slice (some ⟨b, off, none⟩) (8 + m) cap), .int .i64 k0, .int .i64 k2, .int .i64 np, .agg #[.string l, .int .i64 nv, .int .i64 no, .int .i64 np], undef, undef, undef], defers := [] } (fun w' => RecOwn w' (w.heap.size + 1) l nv no np ∧ RecOwn w' w.heap.size ⟨#[]⟩ 0 0 0 ∧ w.heap.size + 1 < w'.heap.size ∧ Below w.heap.size w w')) ?tail ?reg
  case reg =>
    go_region_held3 (fun w' => Below w.heap.size w w') (repeat (first | exact Below.refl _ _ | refine Below.drew ?_ | refine below_drewN ?_ _ | refine Below.alloc ?_ (by simp; try omega) _ | refine Below.setCell ?_ (by simp; try omega) _)) (first
      | (go_at_call 92; (refine (hT _ _ ?_ ?_).mono ?_); (assumption); (assumption); (rintro e wq ⟨rfl, nq, rfl⟩)))
    all_goals (
      refine ⟨rfl, ?_, ?_, ?_, ?_, by assumption⟩
      · with_reducible rfl
      · first
          | exact ro_set (ro_of_heap (t := 31) (heap_new2 w _ _))
          | (refine ro_of_heap (t := 31) ?_; have e9 := heap_alloc_new (World.alloc w (.cells #[.string ⟨#[]⟩, .int .i64 0, .int .i64 0, .int .i64 0] 31)) (.cells #[.string l, .int .i64 nv, .int .i64 no, .int .i64 np] 31); rw [World.size_alloc] at e9; exact e9)
      · exact RecOwn.belowB (B := w.heap.size + 1) (ro_of_heap (t := 31) (heap_alloc_new w _)) (by (repeat (first | exact Below.refl _ _ | refine Below.drew ?_ | refine below_drewN ?_ _ | refine Below.alloc ?_ (by simp; try omega) _ | refine Below.setCell ?_ (by simp; try omega) _))) (by omega)
      · simp)
  rintro _ _ W ⟨rfl, rfl, R1, R0, hzW, hBW⟩
  have ⟨⟨a0, a1, a2, a3⟩, _, _, _, _⟩ := R1
  have ⟨⟨z0, z1, z2, z3⟩, y0, y1, y2, y3⟩ := R0
  have hF := fun (w' : World) h => l3Fault_any (w.heap.size + 1) l nv no np w' h (by omega)
  rw [← HC.out] at hF
  clear q0 q1 hI hI0 hT hcv hw hw2 hw3 hw4 s0 s1 s2 s3 p0 p1 p2 n0 n1 n2
  go_wp2
  go_region_held3 (fun w' => w'.cell? ⟨w.heap.size + 1, 0, none⟩ = some (.string l) ∧ w'.cell? ⟨w.heap.size + 1, 1, none⟩ = some (.int .i64 nv) ∧ w'.cell? ⟨w.heap.size + 1, 2, none⟩ = some (.int .i64 no) ∧ w'.cell? ⟨w.heap.size + 1, 3, none⟩ = some (.int .i64 np)) (first | go_keep | (go_split_ands; refine ⟨(hbq.cell (p := ⟨w.heap.size + 1, 0, none⟩) (by simp; omega)).trans ?_, (hbq.cell (p := ⟨w.heap.size + 1, 1, none⟩) (by simp; omega)).trans ?_, (hbq.cell (p := ⟨w.heap.size + 1, 2, none⟩) (by simp; omega)).trans ?_, (hbq.cell (p := ⟨w.heap.size + 1, 3, none⟩) (by simp; omega)).trans ?_⟩ <;> assumption)) (first
    | (go_at_call 87; refine (hF _ ?_).mono ?_; (exact ⟨by assumption, by assumption, by assumption, by assumption⟩); (rintro e wq ⟨rfl, hbq⟩); first | (have ⟨⟨x0, x1, x2, x3⟩, u0, u1, u2, u3⟩ := RecOwn.belowB (R0.belowB (B := w.heap.size + 1) (Below.refl _ _).drew (by omega)) hbq (by simp; omega)) | skip))
  have ⟨⟨v0, v1, v2, v3⟩, _, _, _, _⟩ := ro_set (l := l) (v := nv) (o := no) (p := np) (RecOwn.mk (RecAt.mk x0 x1 x2 x3) u0 u1 u2 u3)
  have hB9 := below_after_of hBW.drew hbq
  go_wp2
  exact bodyPost_ret (v := .tuple #[recV l nv no np, .bool (rc == 0)]) (by simp [results, Try.results93, go_sem, recV, v0, v1, v2, v3]) rfl ⟨rfl, (((hB9.setCell (Nat.le_refl _) _).setCell (Nat.le_refl _) _).setCell (Nat.le_refl _) _).setCell (Nat.le_refl _) _⟩
end U
end Go.Proofs.Ytcdodpcdennemaa
