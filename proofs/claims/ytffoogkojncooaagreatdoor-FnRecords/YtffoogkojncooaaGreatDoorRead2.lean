/- A record out of bytes: what the model reads. -/
import Derived.Test.YtffoogkojncooaaGreatDoorRead1
import Derived.Test.YtffoogkojncooaaGreatDoorRec2
import Derived.Test.YtffoogkojncooaaGreatDoorRecW
namespace Go.Proofs.YtffoogkojncooaaGreatDoor
open Go.RowKit
namespace U
/-- Bytes that have a record's shape. -/
structure Shape (bs : List Int) (m : Nat) : Prop where
  h0 : bs.getD 0 0 = 1
  h1 : bs.getD 1 0 = (m : Int)
  len : bs.length = 8 + m
def shapeB (bs : List Int) : Bool := decide (8 ≤ bs.length ∧ bs.getD 0 0 = 1 ∧ (bs.length : Int) = 8 + bs.getD 1 0)
def rdM (bs : List Int) : Nat := (bs.getD 1 0).toNat
theorem shape_of {bs : List Int} (hB : Bts bs) (h : shapeB bs = true) : Shape bs (rdM bs) := by
  unfold shapeB at h
  rw [decide_eq_true_iff] at h
  have := hB.at (k := 1) (by omega)
  exact ⟨h.2.1, by unfold rdM; omega, by unfold rdM; omega⟩
def rdL (bs : List Int) : ByteArray := sOf ((bs.drop 2).take (rdM bs))
def rdN (bs : List Int) (k : Nat) : Int := 256 * bs.getD k 0 + bs.getD (k + 1) 0
def rdC (bs : List Int) : Int := recC (rdL bs) (rdN bs (2 + rdM bs)) (rdN bs (2 + rdM bs + 2)) (rdN bs (2 + rdM bs + 4))
def rdB (bs : List Int) : Bool := shapeB bs && decide (rdC bs = 0)
theorem Shape.sub {bs : List Int} {m : Nat} (h : Shape bs m) {w : World} {b off c n : Nat} (hI : Ints .u8 w (.slice (some ⟨b, off, none⟩) n c) bs) (c' : Nat) : Ints .u8 w (.slice (some ⟨b, off + 2, none⟩) m c') ((bs.drop 2).take m) := by
  obtain ⟨-, b', off', e, hb, hc⟩ := hI.at (by have := h.len; omega)
  cases e
  have hl : ((bs.drop 2).take m).length = m := by rw [List.length_take, List.length_drop, h.len]; omega
  refine Or.inr ⟨b, off + 2, c', by rw [hl], hb, fun j hj => ?_⟩
  rw [hl] at hj
  have := hc (2 + j) (by have := h.len; omega)
  rw [show off + 2 + j = off + (2 + j) by omega, this]
  congr 2
  simp only [List.getD_eq_getElem?_getD, List.getElem?_take, List.getElem?_drop, if_pos hj]
theorem Bts.sub {bs : List Int} (h : Bts bs) (m : Nat) : Bts ((bs.drop 2).take m) := fun b hb => h b (List.mem_of_mem_drop (List.mem_of_mem_take hb))
theorem rdL_len {bs : List Int} (h : Shape bs (rdM bs)) : (rdL bs).size = rdM bs := by
  unfold rdL sOf
  show (List.toArray _).size = _
  simp [h.len]; have := h.len; omega
set_option maxRecDepth 100000 in
set_option maxHeartbeats 4000000 in
theorem l3Read_no (A : Nat) (v : Value) (bs : List Int) (w : World) (hv : w.ownsRow A 5 1 v bs.length (bs.map (Value.int .u8))) (hB : Bts bs) (hx : bs.length ≤ 1048576) (hs : shapeB bs = false) :
    Calls Tryz.prog 30 #[v] w fun e w' => e = .returned (.tuple #[recV ⟨#[]⟩ 0 0 0, .bool false]) ∧ Below w.heap.size w w' := by
  obtain ⟨a, c, rfl⟩ := own_shape hv
  have hI := own_ints hv
  by_cases h8 : bs.length < 8
  · generalize bs.length = n at *
    clear hv hI hs
    have h8' : (n : Int) < 8 := by omega
    go_enter Tryz.func30, Tryz.ntmps30
    go_wp2
    exact bodyPost_ret (v := .tuple #[recV ⟨#[]⟩ 0 0 0, .bool false]) (by simp [results, Tryz.results30, go_sem, recV]) rfl ⟨rfl, one_new _⟩
  · obtain ⟨-, b, off, rfl, hb, hc⟩ := hI.at (by omega)
    have q0 := ((one_new (.cells #[.string ⟨#[]⟩, .int .i64 0, .int .i64 0, .int .i64 0] 26)).cell (p := ⟨b, off + 0, none⟩) hb).trans (hc 0 (by omega))
    have q1 := ((one_new (.cells #[.string ⟨#[]⟩, .int .i64 0, .int .i64 0, .int .i64 0] 26)).cell (p := ⟨b, off + 1, none⟩) hb).trans (hc 1 (by omega))
    have e1 := hB.at (k := 1) (by omega)
    have hs' : ¬ (bs.getD 0 0 = 1 ∧ (bs.length : Int) = 8 + bs.getD 1 0) := by
      unfold shapeB at hs
      rw [decide_eq_false_iff_not] at hs
      exact fun h => hs ⟨by omega, h⟩
    rw [Nat.add_zero] at q0
    have h8' : ¬ (bs.length : Int) < 8 := by omega
    generalize bs.getD 0 0 = x at *
    generalize bs.getD 1 0 = y at *
    generalize bs.length = n at *
    clear hv hI hs hc hB
    have hw : IntKind.i64.wrap (8 + y) = 8 + y := by rw [IntKind.wrap_i64]; omega
    by_cases hx1 : x = 1
    · subst hx1
      have hn1 : ¬ (n : Int) = 8 + y := fun e => hs' ⟨rfl, e⟩
      have hn2 : ((n : Int) != 8 + y) = true := by simpa using hn1
      go_enter Tryz.func30, Tryz.ntmps30
      go_wp2
      exact bodyPost_ret (v := .tuple #[recV ⟨#[]⟩ 0 0 0, .bool false]) (by simp [results, Tryz.results30, go_sem, recV]) rfl ⟨rfl, one_new _⟩
    · have hx2 : (x != 1) = true := by simpa using hx1
      go_enter Tryz.func30, Tryz.ntmps30
      go_wp2
      exact bodyPost_ret (v := .tuple #[recV ⟨#[]⟩ 0 0 0, .bool false]) (by simp [results, Tryz.results30, go_sem, recV]) rfl ⟨rfl, one_new _⟩
def OkAt (n : Nat) (K : Int) : Prop := 0 ≤ K ∧ K.toNat + 1 < n
set_option maxRecDepth 100000 in
set_option maxHeartbeats 8000000 in
theorem l3Read_yes (A : Nat) (v : Value) (bs : List Int) (w : World) (hv : w.ownsRow A 5 1 v bs.length (bs.map (Value.int .u8))) (hB : Bts bs) (hx : bs.length ≤ 1048576) (hs : shapeB bs = true) :
    Calls Tryz.prog 30 #[v] w fun e w' => e = .returned (.tuple #[recV (rdL bs) (rdN bs (2 + rdM bs)) (rdN bs (2 + rdM bs + 2)) (rdN bs (2 + rdM bs + 4)), .bool (rdC bs == 0)]) ∧ Below w.heap.size w w' := by
  have hS := shape_of hB hs
  have hsz := rdL_len hS
  obtain ⟨m, hm⟩ : ∃ m, m = rdM bs := ⟨_, rfl⟩
  rw [← hm] at hS hsz ⊢
  have hlen := hS.len
  obtain ⟨b, cap, rfl, hcap, hcm, -, hbl, -⟩ := own_open hv (by omega)
  have hI := own_ints hv
  obtain ⟨-, b', off', e, hb, hc⟩ := hI.at (by omega)
  cases e
  have q0 := ((one_new (.cells #[.string ⟨#[]⟩, .int .i64 0, .int .i64 0, .int .i64 0] 26)).cell (p := ⟨b, 0, none⟩) hb).trans (hc 0 (by omega))
  have q1 := ((one_new (.cells #[.string ⟨#[]⟩, .int .i64 0, .int .i64 0, .int .i64 0] 26)).cell (p := ⟨b, 0 + 1, none⟩) hb).trans (hc 1 (by omega))
  rw [hS.h0] at q0
  rw [hS.h1, Nat.zero_add] at q1
  have hcv : ∀ w', Below w.heap.size w w' → (convert 22 9 (.slice (some ⟨b, 2, none⟩) (((2 + m : Nat) : Int).toNat - 2) (cap - 2))).run Tryz.prog w' = .ok (.string (rdL bs)) w' := fun w' hI' => by
    rw [show ((2 + m : Nat) : Int).toNat - 2 = m by omega]
    have := conv_str (P := Tryz.prog) 22 9 Tryz.underlying22 Tryz.underlying5 Tryz.underlying9 (hS.sub (hI.below hI') (cap - 2)) (hB.sub m)
    rw [show rdL bs = sOf ((bs.drop 2).take m) by unfold rdL; rw [hm]]
    simpa using this
  have hT : ∀ (K : Int) (w' : World), OkAt bs.length K → Below w.heap.size w w' → Calls Tryz.prog 51 #[.slice (some ⟨b, 0, none⟩) bs.length cap, .int .i64 K] w' fun e w'' => e = .returned (.int .i64 (rdN bs K.toNat)) ∧ ∃ n, w'' = w'.drewN n := fun K w' hk hI' => by
    obtain ⟨k, rfl⟩ := Int.eq_ofNat_of_zero_le hk.1
    have hk := hk.2
    rw [Int.toNat_natCast] at hk ⊢
    obtain ⟨-, b', off', e, hb, hc⟩ := (hI.below hI').at (by omega)
    cases e
    exact l3Two_any b 0 cap bs.length k _ _ w' hk (by omega) (hc k (by omega)) (hc (k + 1) hk) (hB.at (by omega)) (hB.at hk)
  have HC : Hid (rdC bs = recC (rdL bs) (rdN bs (2 + m)) (rdN bs (2 + m + 2)) (rdN bs (2 + m + 4))) := by unfold rdC; rw [hm]; rfl
  generalize rdC bs = rc at *
  generalize rdL bs = l at *
  have hml : m ≤ 255 := by have := hB.at (k := 1) (by omega); rw [hS.h1] at this; omega
  rw [hlen] at hI hT hcap ⊢
  have hw : IntKind.i64.wrap (8 + (m : Int)) = 8 + m := by rw [IntKind.wrap_i64]; omega
  have hw2 : IntKind.i64.wrap (2 + (m : Int)) = ((2 + m : Nat) : Int) := by rw [IntKind.wrap_i64]; omega
  have hw3 : IntKind.i64.wrap (((2 + m : Nat) : Int) + 2) = ((2 + m + 2 : Nat) : Int) := by rw [IntKind.wrap_i64]; omega
  have hw4 : IntKind.i64.wrap (((2 + m : Nat) : Int) + 4) = ((2 + m + 4 : Nat) : Int) := by rw [IntKind.wrap_i64]; omega
  have s1 : (2 : Int) ≤ ((2 + m : Nat) : Int) := by omega
  have s3 : (0 : Int) ≤ ((2 + m : Nat) : Int) := by omega
  have s0 : ¬ cap = 2 := by omega
  have s2 : ((2 + m : Nat) : Int) ≤ (cap : Int) := by omega
  have p0 : OkAt (8 + m) ((2 + m : Nat) : Int) := ⟨by omega, by omega⟩
  have p1 : OkAt (8 + m) ((2 + m + 2 : Nat) : Int) := ⟨by omega, by omega⟩
  have p2 : OkAt (8 + m) ((2 + m + 4 : Nat) : Int) := ⟨by omega, by omega⟩
  have n0 : rdN bs (((2 + m : Nat) : Int).toNat) = rdN bs (2 + m) := by rw [Int.toNat_natCast]
  have n1 : rdN bs (((2 + m + 2 : Nat) : Int).toNat) = rdN bs (2 + m + 2) := by rw [Int.toNat_natCast]
  have n2 : rdN bs (((2 + m + 4 : Nat) : Int).toNat) = rdN bs (2 + m + 4) := by rw [Int.toNat_natCast]
  generalize rdN bs (2 + m) = nv at *
  generalize rdN bs (2 + m + 2) = no at *
  generalize rdN bs (2 + m + 4) = np at *
  generalize ((2 + m : Nat) : Int) = k0 at *
  generalize ((2 + m + 2 : Nat) : Int) = k1 at *
  generalize ((2 + m + 4 : Nat) : Int) = k2 at *
  have hI0 := hI.below (one_new (.cells #[.string ⟨#[]⟩, .int .i64 0, .int .i64 0, .int .i64 0] 26))
  clear hv hc hS hlen hm hb
  go_enter Tryz.func30, Tryz.ntmps30
  go_wp2
  refine Code.wp_mono (Q := EndsAt { tmps := #[(.slice (some ⟨b, 0, none⟩) (8 + m) cap), undef, .pointer (some ⟨w.heap.size, 0, none⟩), .bool false, .int .i64 k0, .pointer (some ⟨w.heap.size + 1, 0, none⟩), (.slice (some ⟨b, 0, none⟩) (8 + m) cap), .int .i64 (8 + (m : Int)), .bool (decide (8 + (m : Int) < 8)), .bool (decide (8 + (m : Int) < 8)), (.slice (some ⟨b, 0, none⟩) (8 + m) cap), .pointer (some ⟨b, 0, none⟩), .int .u8 1, .bool false, .bool (decide (8 + (m : Int) < 8)), .bool (decide (8 + (m : Int) < 8)), (.slice (some ⟨b, 0, none⟩) (8 + m) cap), .int .i64 (8 + (m : Int)), (.slice (some ⟨b, 0, none⟩) (8 + m) cap), .pointer (some ⟨b, 1, none⟩), .int .u8 (m : Int), .int .i64 (m : Int), .int .i64 (8 + (m : Int)), .bool false, .bool (decide (8 + (m : Int) < 8)), undef, (.slice (some ⟨b, 0, none⟩) (8 + m) cap), .pointer (some ⟨b, 1, none⟩), .int .u8 (m : Int), .int .i64 (m : Int), .int .i64 k0, (.slice (some ⟨b, 0, none⟩) (8 + m) cap), .int .i64 k0, .slice (some ⟨b, 2, none⟩) (k0.toNat - 2) (cap - 2), .string l, (.slice (some ⟨b, 0, none⟩) (8 + m) cap), .int .i64 k0, .int .i64 nv, (.slice (some ⟨b, 0, none⟩) (8 + m) cap), .int .i64 k0, .int .i64 k1, .int .i64 no, (.slice (some ⟨b, 0, none⟩) (8 + m) cap), .int .i64 k0, .int .i64 k2, .int .i64 np, .agg #[.string l, .int .i64 nv, .int .i64 no, .int .i64 np], undef, undef, undef], defers := [] } (fun w' => RecOwn w' (w.heap.size + 1) l nv no np ∧ RecOwn w' w.heap.size ⟨#[]⟩ 0 0 0 ∧ w.heap.size + 1 < w'.heap.size ∧ Below w.heap.size w w')) ?tail ?reg
  case reg =>
    go_region_held3 (fun w' => Below w.heap.size w w') (repeat (first | exact Below.refl _ _ | refine Below.drew ?_ | refine below_drewN ?_ _ | refine Below.alloc ?_ (by simp; try omega) _ | refine Below.setCell ?_ (by simp; try omega) _)) (first
      | (go_at_call 51; (refine (hT _ _ ?_ ?_).mono ?_); (assumption); (assumption); (rintro e wq ⟨rfl, nq, rfl⟩)))
    all_goals (
      refine ⟨rfl, ?_, ?_, ?_, ?_, by assumption⟩
      · with_reducible rfl
      · first
          | exact ro_set (ro_of_heap (t := 26) (heap_new2 w _ _))
          | (refine ro_of_heap (t := 26) ?_; have e9 := heap_alloc_new (World.alloc w (.cells #[.string ⟨#[]⟩, .int .i64 0, .int .i64 0, .int .i64 0] 26)) (.cells #[.string l, .int .i64 nv, .int .i64 no, .int .i64 np] 26); rw [World.size_alloc] at e9; exact e9)
      · exact RecOwn.belowB (B := w.heap.size + 1) (ro_of_heap (t := 26) (heap_alloc_new w _)) (by (repeat (first | exact Below.refl _ _ | refine Below.drew ?_ | refine below_drewN ?_ _ | refine Below.alloc ?_ (by simp; try omega) _ | refine Below.setCell ?_ (by simp; try omega) _))) (by omega)
      · simp)
  rintro _ _ W ⟨rfl, rfl, R1, R0, hzW, hBW⟩
  have ⟨⟨a0, a1, a2, a3⟩, _, _, _, _⟩ := R1
  have ⟨⟨z0, z1, z2, z3⟩, y0, y1, y2, y3⟩ := R0
  have hF := fun (w' : World) h => l3Fault_any (w.heap.size + 1) l nv no np w' h (by omega)
  rw [← HC.out] at hF
  clear q0 q1 hI hI0 hT hcv hw hw2 hw3 hw4 s0 s1 s2 s3 p0 p1 p2 n0 n1 n2
  go_wp2
  go_region_held3 (fun w' => w'.cell? ⟨w.heap.size + 1, 0, none⟩ = some (.string l) ∧ w'.cell? ⟨w.heap.size + 1, 1, none⟩ = some (.int .i64 nv) ∧ w'.cell? ⟨w.heap.size + 1, 2, none⟩ = some (.int .i64 no) ∧ w'.cell? ⟨w.heap.size + 1, 3, none⟩ = some (.int .i64 np)) (first | go_keep | (go_split_ands; refine ⟨(hbq.cell (p := ⟨w.heap.size + 1, 0, none⟩) (by simp; omega)).trans ?_, (hbq.cell (p := ⟨w.heap.size + 1, 1, none⟩) (by simp; omega)).trans ?_, (hbq.cell (p := ⟨w.heap.size + 1, 2, none⟩) (by simp; omega)).trans ?_, (hbq.cell (p := ⟨w.heap.size + 1, 3, none⟩) (by simp; omega)).trans ?_⟩ <;> assumption)) (first
    | (go_at_call 34; refine (hF _ ?_).mono ?_; (exact ⟨by assumption, by assumption, by assumption, by assumption⟩); (rintro e wq ⟨rfl, hbq⟩); first | (have ⟨⟨x0, x1, x2, x3⟩, u0, u1, u2, u3⟩ := RecOwn.belowB (R0.belowB (B := w.heap.size + 1) (Below.refl _ _).drew (by omega)) hbq (by simp; omega)) | skip))
  have ⟨⟨v0, v1, v2, v3⟩, _, _, _, _⟩ := ro_set (l := l) (v := nv) (o := no) (p := np) (RecOwn.mk (RecAt.mk x0 x1 x2 x3) u0 u1 u2 u3)
  have hB9 := below_after_of hBW.drew hbq
  go_wp2
  exact bodyPost_ret (v := .tuple #[recV l nv no np, .bool (rc == 0)]) (by simp [results, Tryz.results30, go_sem, recV, v0, v1, v2, v3]) rfl ⟨rfl, (((hB9.setCell (Nat.le_refl _) _).setCell (Nat.le_refl _) _).setCell (Nat.le_refl _) _).setCell (Nat.le_refl _) _⟩
end U
end Go.Proofs.YtffoogkojncooaaGreatDoor
