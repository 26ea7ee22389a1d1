/- Records in a row: how they read; the fault of a directory, by the program and by the model. -/
import Derived.Test.YtihhigmceeabmaaGreatDrM
import Derived.Test.YtihhigmceeabmaaGreatRec1
namespace Go.Proofs.YtihhigmceeabmaaGreat
open Go.RowKit
namespace U
/-- A record in four cells. -/
structure RecS (w : World) (b off : Nat) (r : Rc) : Prop where
  c0 : w.cell? ⟨b, off, none⟩ = some (.string r.l)
  c1 : w.cell? ⟨b, off + 1, none⟩ = some (.int .i64 r.v)
  c2 : w.cell? ⟨b, off + 2, none⟩ = some (.int .i64 r.o)
  c3 : w.cell? ⟨b, off + 3, none⟩ = some (.int .i64 r.p)
theorem RecS.below {w w' : World} {b off N : Nat} {r : Rc} (h : RecS w b off r) (hb : Below N w w') (hlt : b < N) : RecS w' b off r :=
  ⟨(hb.cell (p := ⟨b, off, none⟩) hlt).trans h.c0, (hb.cell (p := ⟨b, off + 1, none⟩) hlt).trans h.c1, (hb.cell (p := ⟨b, off + 2, none⟩) hlt).trans h.c2, (hb.cell (p := ⟨b, off + 3, none⟩) hlt).trans h.c3⟩
theorem RecS.lt {w : World} {b off : Nat} {r : Rc} (h : RecS w b off r) : b < w.heap.size := by
  rcases hh : w.heap[b]? with _ | o
  · have := h.c0; simp [World.cell?, hh] at this
  · exact (Array.getElem?_eq_some_iff.1 hh).1
theorem RecS.new (w : World) (r : Rc) (t : TypeId) : RecS (w.alloc (.cells #[.string r.l, .int .i64 r.v, .int .i64 r.o, .int .i64 r.p] t)) w.heap.size 0 r := by
  have hh := heap_alloc_new w (.cells #[.string r.l, .int .i64 r.v, .int .i64 r.o, .int .i64 r.p] t)
  constructor <;> (unfold World.cell?; rw [hh]; rfl)
/-- A slice value reads as a list of records. -/
def Rcs (w : World) (v : Value) (l : Rcl) : Prop :=
  (l = [] ∧ ∃ a c, v = .slice a 0 c) ∨ ∃ b off c, v = .slice (some ⟨b, off, none⟩) l.length c ∧ b < w.heap.size ∧ ∀ j, j < l.length → RecS w b (off + j * 4) (rAt l j)
theorem Rcs.below {w w' : World} {v : Value} {l : Rcl} (h : Rcs w v l) (hb : Below w.heap.size w w') : Rcs w' v l := by
  rcases h with h | ⟨b, off, c, rfl, hlt, hc⟩
  · exact Or.inl h
  · exact Or.inr ⟨b, off, c, rfl, Nat.lt_of_lt_of_le hlt hb.size, fun j hj => (hc j hj).below hb hlt⟩
theorem Rcs.shape {w : World} {v : Value} {l : Rcl} (h : Rcs w v l) : ∃ a c, v = .slice a l.length c := by
  rcases h with ⟨rfl, a, c, rfl⟩ | ⟨b, off, c, rfl, _⟩
  · exact ⟨a, c, rfl⟩
  · exact ⟨_, c, rfl⟩
theorem Rcs.at {w : World} {a : Option Addr} {n c : Nat} {l : Rcl} (h : Rcs w (.slice a n c) l) (h0 : 0 < l.length) : n = l.length ∧ ∃ b off, a = some ⟨b, off, none⟩ ∧ b < w.heap.size ∧ ∀ j, j < l.length → RecS w b (off + j * 4) (rAt l j) := by
  rcases h with ⟨rfl, _⟩ | ⟨b, off, c', e, h1, h2⟩
  · simp at h0
  · cases e
    exact ⟨rfl, b, off, rfl, h1, h2⟩
theorem Rcs.nil (w : World) (a : Option Addr) (c : Nat) : Rcs w (.slice a 0 c) [] := Or.inl ⟨rfl, a, c, rfl⟩
/-- The cells of records. -/
def flR (l : Rcl) : List Value := l.flatMap fun r => [.string r.l, .int .i64 r.v, .int .i64 r.o, .int .i64 r.p]
theorem flR_len (l : Rcl) : (flR l).length = l.length * 4 := by
  unfold flR
  induction l with
  | nil => rfl
  | cons p t ih => rw [List.flatMap_cons, List.length_append, ih]; simp; omega
theorem flR_app (l m : Rcl) : flR (l ++ m) = flR l ++ flR m := by unfold flR; rw [List.flatMap_append]
theorem flR_at (l : Rcl) : ∀ (j : Nat), j < l.length → (flR l)[j * 4]? = some (.string (rAt l j).l) ∧ (flR l)[j * 4 + 1]? = some (.int .i64 (rAt l j).v) ∧ (flR l)[j * 4 + 2]? = some (.int .i64 (rAt l j).o) ∧ (flR l)[j * 4 + 3]? = some (.int .i64 (rAt l j).p) := by
  induction l with
  | nil => intro j h; simp at h
  | cons p t ih =>
    intro j h
    unfold flR
    rw [List.flatMap_cons]
    cases j with
    | zero => simp [rAt]
    | succ j =>
      have := ih j (by simpa using h)
      unfold flR at this
      rw [show (j + 1) * 4 = j * 4 + 1 + 1 + 1 + 1 by omega]
      simpa [rAt] using this
theorem own_rcs {w : World} {B : Nat} {e : TypeId} {v : Value} {l : Rcl} (h : w.ownsRow B e 4 v l.length (flR l)) : Rcs w v l := by
  have h0 := h
  rcases h.2 with ⟨rfl, hn⟩ | ⟨g, cap, cur, rfl, hB, hg, _⟩
  · left; exact ⟨List.eq_nil_of_length_eq_zero hn, none, 0, rfl⟩
  · right
    refine ⟨g, 0, cap, rfl, (Array.getElem?_eq_some_iff.1 hg).1, fun j hj => ?_⟩
    have := flR_at l j hj
    rw [Nat.zero_add]
    exact ⟨(h0.cellAt (j * 4) (by omega)).trans this.1, (h0.cellAt (j * 4 + 1) (by omega)).trans this.2.1, (h0.cellAt (j * 4 + 2) (by omega)).trans this.2.2.1, (h0.cellAt (j * 4 + 3) (by omega)).trans this.2.2.2⟩
theorem own_rcs' {w : World} {B n : Nat} {e : TypeId} {a : Option Addr} {c : Nat} {l : Rcl} (h : w.ownsRow B e 4 (.slice a n c) n (flR l)) : Rcs w (.slice a n c) l := by
  have h1 := h.1
  rw [flR_len] at h1
  have : n = l.length := by omega
  subst this
  exact own_rcs h
theorem four_cellsV {w : World} {g : Nat} {x y z u : Value} {t : TypeId} (h : w.heap[g]? = some (.cells #[x, y, z, u] t)) : w.cell? ⟨g, 0, none⟩ = some x ∧ w.cell? ⟨g, 1, none⟩ = some y ∧ w.cell? ⟨g, 2, none⟩ = some z ∧ w.cell? ⟨g, 3, none⟩ = some u := by
  refine ⟨?_, ?_, ?_, ?_⟩ <;> (unfold World.cell?; rw [h]; rfl)
/-- All labels are of a size. -/
def Lbs (l : Rcl) : Prop := ∀ r ∈ l, r.l.size ≤ 1048576
theorem Lbs.at {l : Rcl} (h : Lbs l) {j : Nat} (hj : j < l.length) : (rAt l j).l.size ≤ 1048576 := h _ (rAt_mem hj)
theorem DirOk.lbs {l : Rcl} (h : DirOk l) : Lbs l := fun r hr => by
  obtain ⟨j, hj, rfl⟩ := List.mem_iff_getElem.1 hr
  have := (h.recA hj).small
  rw [rAt_eq hj] at this
  omega
set_option maxRecDepth 100000 in
set_option maxHeartbeats 1000000 in
theorem recordKey_any (l : ByteArray) (v o p : Int) (w : World) (h : labelP l = 0) :
    Calls Tryz.prog 53 #[recV l v o p] w fun e w' => e = .returned (.int .i64 (keyI l)) ∧ Below w.heap.size w w' := by
  have hs := labelP_small h
  have hK := fun w => implKeyOf_any l w (by omega)
  rw [keyV_ok h, h] at hK
  have hf := field_IR1k
  unfold recV
  generalize keyI l = z at *
  clear h hs
  go_enter Tryz.func53, Tryz.ntmps53
  go_wp2_with fail
  refine (hK _).mono ?_
  rintro e w1 ⟨rfl, hb1⟩
  clear hK
  go_wp2
  go_ret
  exact ⟨rfl, below_after hb1⟩
set_option maxRecDepth 100000 in
set_option maxHeartbeats 4000000 in
theorem implDirectoryFault_core (b off c n : Nat) (l : Rcl) (w : World) (hn : n ≤ 12) (hb : b < w.heap.size) (hl : ∀ j, j < n → (rAt l j).l.size ≤ 1048576)
    (hc : ∀ j, j < n → RecS w b (off + j * 4) (rAt l j)) :
    Calls Tryz.prog 128 #[.agg #[.slice (some ⟨b, off, none⟩) n c]] w fun e w' => e = .returned (.int .i64 (scanR l n 0)) ∧ Below w.heap.size w w' := by
  obtain ⟨q, hq⟩ : ∃ q, q = scanR l n 0 := ⟨_, rfl⟩
  have HQ : Hid (scanR l n 0 = q) := hq.symm
  rw [← hq]
  clear hq
  go_enter Tryz.func128, Tryz.ntmps128
  go_wp2
  go_loopw [3, 15] (fun u i wr => ∃ k : Nat, k ≤ n ∧ i = .int .i64 k ∧ u = .int .i64 (ahdR l k) ∧ Hid (Below w.heap.size w wr) ∧ Hid (scanR l (n - k) k = q)) (fun _ i _ => n - (intOf i).toNat)
  case atStart => exact ⟨0, Nat.zero_le _, rfl, rfl, one_new _, HQ⟩
  case round =>
    obtain ⟨k, hk, rfl, rfl, hB, HS⟩ := hrel
    by_cases hkn : k < n
    · have hki : (k : Int) < (n : Int) := by omega
      have hr := (hc k hkn).below hB.out hb
      have hI := fun w => implRecordFault_any (rAt l k).l (rAt l k).v (rAt l k).o (rAt l k).p w (hl k hkn)
      have HSN : Hid (n - k = (n - k - 1) + 1) := (by omega : n - k = (n - k - 1) + 1)
      have HF : Hid (¬ (rAt l k).c = 0 → q = (rAt l k).c) := (fun h => by rw [← HS.out, HSN.out]; exact scanR_fault h : ¬ (rAt l k).c = 0 → q = (rAt l k).c)
      have HO : Hid ((rAt l k).c = 0 → (rAt l k).k ≤ ahdR l k → q = 1) := (fun h h1 => by rw [← HS.out, HSN.out]; exact scanR_form h h1 : (rAt l k).c = 0 → (rAt l k).k ≤ ahdR l k → q = 1)
      have HT : Hid ((rAt l k).c = 0 → ¬ (rAt l k).k ≤ ahdR l k → scanR l (n - k - 1) (k + 1) = q) := (fun h h1 => by rw [← HS.out, HSN.out]; exact (scanR_step h h1).symm : (rAt l k).c = 0 → ¬ (rAt l k).k ≤ ahdR l k → scanR l (n - k - 1) (k + 1) = q)
      have hKy := fun (h : (rAt l k).c = 0) w => recordKey_any (rAt l k).l (rAt l k).v (rAt l k).o (rAt l k).p w (Rc.labelP_of h)
      have HA : Hid (ahdR l (k + 1) = (rAt l k).k) := rfl
      have e1 : recC (rAt l k).l (rAt l k).v (rAt l k).o (rAt l k).p = (rAt l k).c := rfl
      have e2 : keyI (rAt l k).l = (rAt l k).k := rfl
      rw [e1] at hI
      rw [e2] at hKy
      obtain ⟨d0, d1, d2, d3⟩ := hr
      unfold recV at *
      obtain ⟨cz, hcz⟩ : ∃ cz, cz = (rAt l k).c := ⟨_, rfl⟩
      rw [← hcz] at hI hKy HF HO HT
      generalize (rAt l k).k = kz at *
      generalize ahdR l k = az at *
      generalize (rAt l k).l = x0 at *
      generalize (rAt l k).v = x1 at *
      generalize (rAt l k).o = x2 at *
      generalize (rAt l k).p = x3 at *
      clear hc e1 e2 hcz hl
      obtain ⟨W, hW⟩ : ∃ W, W = wr.alloc (.cells #[.string x0, .int .i64 x1, .int .i64 x2, .int .i64 x3] 37) := ⟨_, rfl⟩
      have HW : Hid (wr.alloc (.cells #[.string x0, .int .i64 x1, .int .i64 x2, .int .i64 x3] 37) = W) := hW.symm
      have HWB : Hid (Below w.heap.size w W) := (by rw [hW]; exact hB.out.alloc hB.out.size _ : Below w.heap.size w W)
      have HWH : Hid (W.heap[wr.heap.size]? = some (.cells #[.string x0, .int .i64 x1, .int .i64 x2, .int .i64 x3] 37)) := (by rw [hW]; exact heap_alloc_new wr _ : W.heap[wr.heap.size]? = some (.cells #[.string x0, .int .i64 x1, .int .i64 x2, .int .i64 x3] 37))
      obtain ⟨g0, g1, g2, g3⟩ := four_cellsV HWH.out
      have hbr : b < wr.heap.size := Nat.lt_of_lt_of_le hb hB.out.size
      clear hW
      by_cases hc0 : cz = 0
      · subst hc0
        have hK2 := hKy rfl
        have HO2 : Hid (kz ≤ az → q = 1) := HO.out rfl
        have HT2 : Hid (¬ kz ≤ az → scanR l (n - k - 1) (k + 1) = q) := HT.out rfl
        clear HF HO HT hKy
        go_wp2_with fail
        rw [HW.out]
        refine (hI _).mono ?_
        rintro e w1 ⟨rfl, hb1⟩
        have hlt : wr.heap.size < W.heap.size := (Array.getElem?_eq_some_iff.1 HWH.out).1
        obtain ⟨j0, j1, j2, j3⟩ := four_cellsV ((hb1.block wr.heap.size hlt).trans HWH.out)
        have HB1 : Hid (Below w.heap.size w w1) := below_after_of HWB.out hb1
        clear hI hb1
        go_wp2_with fail
        refine (hK2 _).mono ?_
        rintro e w2 ⟨rfl, hb2⟩
        have HB2 : Hid (Below w.heap.size w w2) := below_after_of HB1.out hb2
        clear hK2 hb2
        by_cases hle : kz ≤ az
        · have HQ1 := HO2.out hle
          have HQ2 : Hid (q = 1) := HQ1
          clear HQ1
          go_wp2
          go_ret
          exact ⟨ret_int HQ2.out.symm, HB2.out⟩
        · have HQ2 : Hid (scanR l (n - k - 1) (k + 1) = q) := HT2.out (by omega)
          go_wp2
          go_roundw
          case rel => exact ⟨k + 1, by omega, by go_num, by rw [HA.out], HB2, by rw [show n - (k + 1) = n - k - 1 by omega]; exact HQ2⟩
          case measure => simp [intOf]; omega
      · have hcn : (cz != 0) = true := by simpa using hc0
        have HQ2 : Hid (q = cz) := HF.out hc0
        clear HF HO HT hKy hc0
        go_wp2_with fail
        rw [HW.out]
        refine (hI _).mono ?_
        rintro e w1 ⟨rfl, hb1⟩
        have HB1 : Hid (Below w.heap.size w w1) := below_after_of HWB.out hb1
        clear hI hb1
        go_wp2
        go_ret
        exact ⟨ret_int HQ2.out.symm, HB1.out⟩
    · have hkn : k = n := by omega
      subst hkn
      have e0 : Hid (q = 0) := (by rw [← HS.out, Nat.sub_self]; rfl : q = 0)
      clear hc
      go_wp2
      go_ret
      exact ⟨ret_int e0.out.symm, hB.out⟩
set_option maxRecDepth 100000 in
set_option maxHeartbeats 1000000 in
theorem implDirectoryFault_any (v : Value) (l : Rcl) (w : World) (hv : Rcs w v l) (hl : Lbs l) (hx : l.length ≤ 1099511627776) :
    Calls Tryz.prog 128 #[.agg #[v]] w fun e w' => e = .returned (.int .i64 (dirF l)) ∧ Below w.heap.size w w' := by
  obtain ⟨a, c, rfl⟩ := hv.shape
  by_cases h : 12 < l.length
  · rw [dirF_many h]
    generalize l.length = n at *
    clear hv
    go_enter Tryz.func128, Tryz.ntmps128
    go_wp2
    go_ret
    exact ⟨rfl, one_new _⟩
  · rw [dirF_scan h]
    by_cases h0 : 0 < l.length
    · obtain ⟨_, b, off, rfl, hb, hc⟩ := hv.at h0
      exact implDirectoryFault_core b off c l.length l w (by omega) hb (fun j hj => hl.at hj) hc
    · have e1 : l = [] := List.eq_nil_of_length_eq_zero (by omega)
      subst e1
      simp only [List.length_nil]
      have e2 : scanR [] 0 0 = 0 := rfl
      rw [e2]
      clear hv h0 hx h e2
      go_enter Tryz.func128, Tryz.ntmps128
      go_wp2
      refine wp_loop_rounds 1 ?_; rw [rounds_succ]
      go_wp2
      go_ret
      exact ⟨rfl, one_new _⟩
end U
end Go.Proofs.YtihhigmceeabmaaGreat
