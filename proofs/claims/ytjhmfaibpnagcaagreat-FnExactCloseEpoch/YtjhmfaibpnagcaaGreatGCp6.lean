/- A state copied by the model: what is laid first. -/
import Derived.Test.YtjhmfaibpnagcaaGreatGCp5b
namespace Go.Proofs.YtjhmfaibpnagcaaGreat
open Go.RowKit Go.Maps
namespace U
def rwB (b : Nat) : Rw := bRow b [.int .i64 0, .int .i64 0, .slice none 0 0, .slice none 0 0, .slice none 0 0, .slice none 0 0]
def rwD (z : Option Addr) (n k : Nat) (d : Rcl) : Rw := ⟨52, 4, .slice z n k, n, flR d⟩
def rwN0 (b : Nat) : Rw := ⟨57, 2, .slice (some ⟨b, 0, none⟩) 0 0, 0, []⟩
def rwN (z : Option Addr) (n k : Nat) (l : Prl) : Rw := ⟨57, 2, .slice z n k, n, (fl l).map (Value.int .i64)⟩
def rwH0 (b : Nat) : Rw := ⟨88, 5, .slice (some ⟨b, 0, none⟩) 0 0, 0, []⟩
def rwH (z : Option Addr) (n k : Nat) (h : Hdl) : Rw := ⟨88, 5, .slice z n k, n, flH h⟩
theorem box6_all {lo hi b : Nat} {w : World} {R : List Rw} (h : Own lo hi w (rwB b :: R)) : w.cell? ⟨b, 0, none⟩ = some (.int .i64 0) ∧ w.cell? ⟨b, 1, none⟩ = some (.int .i64 0) ∧ w.cell? ⟨b, 2, none⟩ = some (.slice none 0 0) ∧ w.cell? ⟨b, 3, none⟩ = some (.slice none 0 0) ∧ w.cell? ⟨b, 4, none⟩ = some (.slice none 0 0) ∧ w.cell? ⟨b, 5, none⟩ = some (.slice none 0 0) ∧ w.frozen? ⟨b, 0, none⟩ = false ∧ w.frozen? ⟨b, 1, none⟩ = false ∧ w.frozen? ⟨b, 2, none⟩ = false ∧ w.frozen? ⟨b, 3, none⟩ = false ∧ w.frozen? ⟨b, 4, none⟩ = false ∧ w.frozen? ⟨b, 5, none⟩ = false := by
  have hob : w.ownsRow lo 38 6 (.slice (some ⟨b, 0, none⟩) 1 1) 1 [.int .i64 0, .int .i64 0, .slice none 0 0, .slice none 0 0, .slice none 0 0, .slice none 0 0] := h.own _ (List.Mem.head _)
  have e0 := hob.cellAt 0 (by omega)
  have e1 := hob.cellAt 1 (by omega)
  have e2 := hob.cellAt 2 (by omega)
  have e3 := hob.cellAt 3 (by omega)
  have e4 := hob.cellAt 4 (by omega)
  have e5 := hob.cellAt 5 (by omega)
  simp only [List.getElem?_cons_zero, List.getElem?_cons_succ] at e0 e1 e2 e3 e4 e5
  exact ⟨e0, e1, e2, e3, e4, e5, hob.frozenAt 0, hob.frozenAt 1, hob.frozenAt 2, hob.frozenAt 3, hob.frozenAt 4, hob.frozenAt 5⟩
theorem own_box6 {lo hi b : Nat} {w : World} {R : List Rw} (h : Own lo hi w (bRow b [.int .i64 0, .int .i64 0, .slice none 0 0, .slice none 0 0, .slice none 0 0, .slice none 0 0] :: R)) (x0 x1 x2 x3 x4 x5 : Value) : Own lo ((((((w.setCell ⟨b, 0, none⟩ x0).setCell ⟨b, 1, none⟩ x1).setCell ⟨b, 2, none⟩ x2).setCell ⟨b, 3, none⟩ x3).setCell ⟨b, 4, none⟩ x4).setCell ⟨b, 5, none⟩ x5).heap.size ((((((w.setCell ⟨b, 0, none⟩ x0).setCell ⟨b, 1, none⟩ x1).setCell ⟨b, 2, none⟩ x2).setCell ⟨b, 3, none⟩ x3).setCell ⟨b, 4, none⟩ x4).setCell ⟨b, 5, none⟩ x5) (bRow b [x0, x1, x2, x3, x4, x5] :: R) := by
  have h0 : w.ownsRow lo 38 6 (.slice (some ⟨b, 0, none⟩) 1 1) 1 [.int .i64 0, .int .i64 0, .slice none 0 0, .slice none 0 0, .slice none 0 0, .slice none 0 0] := h.own _ (List.Mem.head _)
  obtain ⟨s0, r0⟩ := h0.stored 0 x0
  obtain ⟨s1, r1⟩ := s0.stored 1 x1
  obtain ⟨s2, r2⟩ := s1.stored 2 x2
  obtain ⟨s3, r3⟩ := s2.stored 3 x3
  obtain ⟨s4, r4⟩ := s3.stored 4 x4
  obtain ⟨s5, r5⟩ := s4.stored 5 x5
  have hg := grown_trans (grown_trans (grown_trans (grown_trans (grown_trans r0 r1) r2) r3) r4) r5
  have := Own.set (A := []) (B := R) (r := bRow b [.int .i64 0, .int .i64 0, .slice none 0 0, .slice none 0 0, .slice none 0 0, .slice none 0 0]) (r' := bRow b [x0, x1, x2, x3, x4, x5]) h rfl hg s5
  have hl : ∀ g ∈ blks (bRow b [x0, x1, x2, x3, x4, x5] :: R), g < ((((((w.setCell ⟨b, 0, none⟩ x0).setCell ⟨b, 1, none⟩ x1).setCell ⟨b, 2, none⟩ x2).setCell ⟨b, 3, none⟩ x3).setCell ⟨b, 4, none⟩ x4).setCell ⟨b, 5, none⟩ x5).heap.size := fun g hm => this.lt g hm
  exact ⟨this.own, hl, this.nd⟩
theorem below_box6 {W w : World} {b : Nat} (h : Below W.heap.size W w) (hb : W.heap.size ≤ b) (x0 x1 x2 x3 x4 x5 : Value) : Below W.heap.size W ((((((w.setCell ⟨b, 0, none⟩ x0).setCell ⟨b, 1, none⟩ x1).setCell ⟨b, 2, none⟩ x2).setCell ⟨b, 3, none⟩ x3).setCell ⟨b, 4, none⟩ x4).setCell ⟨b, 5, none⟩ x5) :=
  (((((h.setCell hb _).setCell hb _).setCell hb _).setCell hb _).setCell hb _).setCell hb _
theorem own_nil {w : World} {B n m z : Nat} {e : TypeId} {v : Value} {xs : List Value} {a : Option Addr} {c : Nat} (h : w.ownsRow B e z v n xs) (hv : v = .slice a m c) : a = none → c = 0 := by
  rintro rfl
  rcases h.2 with ⟨e, _⟩ | ⟨g, cap, cur, e, _⟩
  · rw [hv] at e; cases e; rfl
  · rw [hv] at e; cases e
theorem Own.addNil {lo hi : Nat} {w : World} {R : List Rw} (h : Own lo hi w R) : Own lo hi w (R ++ [oRow (.slice none 0 0) []]) := by
  have e : blks (R ++ [oRow (.slice none 0 0) []]) = blks R := by unfold blks; rw [List.filterMap_append]; simp [oRow, Value.ownBlock]
  refine ⟨fun r hr => ?_, by rw [e]; exact h.hi, by rw [e]; exact h.nd⟩
  rcases List.mem_append.1 hr with hr | hr
  · exact h.own r hr
  · rw [List.mem_singleton] at hr
    subst hr
    exact ⟨rfl, Or.inl ⟨rfl, rfl⟩⟩
set_option maxRecDepth 100000 in
set_option maxHeartbeats 8000000 in
theorem l11Copy_any (lo hi : Nat) (s : St) (v : Sv) (us0 : List Value) (w : World) (hso : StOwn lo hi w v us0 s) (hB : StB s) :
    Calls Tryz.prog 72 #[stV s v] w fun e w' => ∃ u us, e = .returned (stV s u) ∧ SaAns w s u us w' := by
  have hv := hso.sts
  obtain ⟨W, hW⟩ : ∃ W, W = (w.alloc (stC s v 38)).alloc (.cells #[.int .i64 0, .int .i64 0, .slice none 0 0, .slice none 0 0, .slice none 0 0, .slice none 0 0] 38) := ⟨_, rfl⟩
  have hBW : Below w.heap.size w W := by rw [hW]; exact two_new _ _
  have I0 : OsI w.heap.size s.ph s.cu v.d v.n v.h v.p W := by
    have h2 := heap_alloc_new (w.alloc (stC s v 38)) (.cells #[.int .i64 0, .int .i64 0, .slice none 0 0, .slice none 0 0, .slice none 0 0, .slice none 0 0] 38)
    rw [World.size_alloc] at h2
    rw [hW]
    exact ⟨((one_new _).block w.heap.size (by simp)).trans (heap_alloc_new w _), h2⟩
  have hvW := hv.below hBW
  obtain ⟨a1, c1, e1⟩ := hv.d.shape
  obtain ⟨a2, c2, e2⟩ := hv.n.shape
  obtain ⟨a3, c3, e3⟩ := hv.h.shape
  obtain ⟨a4, c4, e4⟩ := hv.p.shape
  have hx1 := hB.d
  have hx2 := hB.n
  have hx3 := hB.h
  have hpx := hB.p
  have HAC : Hid ((a1 = none → c1 = 0) ∧ (a2 = none → c2 = 0) ∧ (a3 = none → c3 = 0)) := ⟨own_nil (hso.own.own (dRow v.d s.d) (by simp [sRows])) e1, own_nil (hso.own.own (nRow v.n s.n) (by simp [sRows])) e2, own_nil (hso.own.own (hRow v.h s.h) (by simp [sRows])) e3⟩
  have HPC : Hid (∀ j, j < s.p.length → ∃ g ua q uc, a4 = some ⟨g, 0, none⟩ ∧ g < w.heap.size ∧ w.cell? ⟨g, j, none⟩ = some (.slice ua q uc) ∧ q = (dAt s.p j).length ∧ Rcs w (.slice ua q uc) (dAt s.p j) ∧ (ua = none → uc = 0) ∧ q ≤ 1048576) := fun j hj => by
    have ho : w.ownsRow lo 33 1 v.p us0.length us0 := hso.own.own (oRow v.p us0) (by simp [sRows])
    have hin : w.ownsRow lo 52 4 (uAt us0 j) (dAt s.p j).length (flR (dAt s.p j)) := hso.own.own (dRow (uAt us0 j) (dAt s.p j)) (List.mem_append_right _ (List.mem_append_right _ (List.mem_append_right _ (List.mem_append_right _ (pRows_mem us0 s.p s.p.length j hj)))))
    obtain ⟨ua, uc, hu⟩ := own_shape hin
    rcases ho.2 with ⟨_, hn⟩ | ⟨g, cap, cur, e, _, hg, _⟩
    · have := hso.len; omega
    · rw [e4] at e
      have hc := ho
      rw [e4, e] at hc
      have hlen := hso.len
      have hcell := (show w.ownsRow lo 33 1 (.slice (some ⟨g, 0, none⟩) us0.length cap) us0.length us0 from hc).cellAt j (by omega)
      refine ⟨g, ua, (dAt s.p j).length, uc, (Value.slice.inj e).1, (Array.getElem?_eq_some_iff.1 hg).1, ?_, rfl, by rw [← hu]; exact own_rcs hin, own_nil hin hu, (hB.pd j hj).1⟩
      rw [hcell, ← hu]
      unfold uAt
      rw [List.getD_eq_getElem?_getD, List.getElem?_eq_getElem (by omega)]
      rfl
  obtain ⟨ph, cu, d, n, h, p⟩ := s
  obtain ⟨vd, vn, vh, vp⟩ := v
  dsimp only at *
  subst e1 e2 e3 e4
  unfold stV
  unfold stC at hW
  dsimp only at *
  obtain ⟨n1, hn1⟩ : ∃ n1, n1 = d.length := ⟨_, rfl⟩
  obtain ⟨n2, hn2⟩ : ∃ n2, n2 = n.length := ⟨_, rfl⟩
  obtain ⟨n3, hn3⟩ : ∃ n3, n3 = h.length := ⟨_, rfl⟩
  have HN1 : Hid (n1 = d.length) := hn1
  have HN2 : Hid (n2 = n.length) := hn2
  have HN3 : Hid (n3 = h.length) := hn3
  have hr1 := hvW.d
  have hr2 := hvW.n
  have hr3 := hvW.h
  dsimp only at hr1 hr2 hr3
  rw [← hn1] at hr1 hx1 hW I0 ⊢
  rw [← hn2] at hr2 hx2 hW I0 ⊢
  rw [← hn3] at hr3 hx3 hW I0 ⊢
  have HRD : Hid (∀ X, Below W.heap.size W X → Rcs X (.slice a1 n1 c1) d ∧ Prs X (.slice a2 n2 c2) n ∧ Hds X (.slice a3 n3 c3) h) := fun X hb => ⟨hr1.below hb, hr2.below hb, hr3.below hb⟩
  obtain ⟨⟨c0', c1', c2', c3', c4', c5'⟩, -⟩ := six_cellsS I0.box
  have q0 := After.cell c0'
  have q1 := After.cell c1'
  have q2 := After.cell c2'
  have q3 := After.cell c3'
  have q4 := After.cell c4'
  have hne := After.ne W
  have HW : Hid ((w.alloc (.cells #[.int .i64 ph, .int .i64 cu, .slice a1 n1 c1, .slice a2 n2 c2, .slice a3 n3 c3, .slice a4 p.length c4] 38)).alloc (.cells #[.int .i64 0, .int .i64 0, .slice none 0 0, .slice none 0 0, .slice none 0 0, .slice none 0 0] 38) = W) := hW.symm
  have HBW : Hid (Below w.heap.size w W) := hBW
  have HI0 : Hid (OsI w.heap.size ph cu (.slice a1 n1 c1) (.slice a2 n2 c2) (.slice a3 n3 c3) (.slice a4 p.length c4) W) := I0
  clear hW hv hB I0 hBW hvW hr1 hr2 hr3 hn1 hn2 hn3 hso c0' c1' c2' c3' c4' c5'
  go_enter Tryz.func72, Tryz.ntmps72
  go_wp2_with fail
  rw [HW.out]
  clear HW
  refine Code.wp_mono (Q := fun e a w' => ∃ bx z1 k1 z2 k2 z3 k3 g7 g11, e = .normal ∧ a = { tmps := #[Value.agg #[Value.int IntKind.i64 ph, Value.int IntKind.i64 cu, Value.slice a1 n1 c1, Value.slice a2 n2 c2, Value.slice a3 n3 c3, Value.slice a4 (p.length) c4], Value.pointer (some { block := w.heap.size, off := 0 }), Value.pointer (some { block := w.heap.size + 1, off := 0 }), Value.pointer (some { block := bx, off := 0 }), undef, Value.pointer (some { block := w.heap.size, off := 0 }), Value.int IntKind.i64 ph, Value.pointer (some { block := w.heap.size, off := 1 }), Value.int IntKind.i64 cu, Value.pointer (some { block := w.heap.size, off := 2 }), Value.agg #[Value.slice a1 n1 c1], Value.agg #[Value.slice z1 n1 k1], Value.slice (some { block := g7, off := 0 }) 0 0, Value.pointer (some { block := w.heap.size, off := 3 }), Value.slice a2 n2 c2, Value.slice z2 n2 k2, Value.slice (some { block := g11, off := 0 }) 0 0, Value.pointer (some { block := w.heap.size, off := 4 }), Value.slice a3 n3 c3, Value.slice z3 n3 k3, Value.agg #[Value.int IntKind.i64 ph, Value.int IntKind.i64 cu, Value.slice z1 n1 k1, Value.slice z2 n2 k2, Value.slice z3 n3 k3, Value.slice none 0 0], undef, undef, undef, undef, undef, undef, undef, undef, undef, undef, undef, undef, undef, undef, undef, undef, undef, undef, undef], defers := [] } ∧ Below W.heap.size W w' ∧ Own W.heap.size w'.heap.size w' [bRow bx [.int .i64 ph, .int .i64 cu, .slice z1 n1 k1, .slice z2 n2 k2, .slice z3 n3 k3, .slice none 0 0], ⟨52, 4, .slice z1 n1 k1, n1, flR d⟩, ⟨57, 2, .slice z2 n2 k2, n2, (fl n).map (Value.int .i64)⟩, ⟨88, 5, .slice z3 n3 k3, n3, flH h⟩]) ?tail ?reg
  case reg =>
    refine wp_region_held_drew (S := fun w' => ∃ n : After W, w' = n.w) (by kernel_rfl) (after_mk (Below.refl _ _).drew) (fun hHeld => ?_)
    have hcur : Below W.heap.size W W.drew := (Below.refl _ _).drew
    generalize W.drew = X0 at *
    have OX := Own.noRows W.heap.size X0.heap.size X0
    refine h_take (i := 0) (d := some 5) (v := ?vc1) (by rfl) (by kernel_rfl) (by kernel_rfl) (by kernel_rfl) (fun _ _ _ h => by obtain ⟨_, _, _, _, _, _, _, _, _, h0, _⟩ := h; cases h0) (by rfl) ?hyc1 hHeld ?restc1
    case hyc1 =>
      intro o ho
      simp only [List.getElem?_toArray, List.getElem?_cons_zero, Option.some.injEq] at ho
      subst ho
      rintro _ ⟨nw, rfl⟩
      first | (go_simp; done) | (go_simp; with_reducible rfl)
    try simp only [Act.put, List.setIfInBounds_toArray, List.set_cons_zero, List.set_cons_succ]
    refine h_take (i := 1) (d := some 6) (v := ?vc2) (by rfl) (by kernel_rfl) (by kernel_rfl) (by kernel_rfl) (fun _ _ _ h => by obtain ⟨_, _, _, _, _, _, _, _, _, h0, _⟩ := h; cases h0) (by rfl) ?hyc2 hHeld ?restc2
    case hyc2 =>
      intro o ho
      simp only [List.getElem?_toArray, List.getElem?_cons_succ, List.getElem?_cons_zero, Option.some.injEq] at ho
      subst ho
      rintro _ ⟨nw, rfl⟩
      first | (go_simp; done) | (go_simp; with_reducible rfl)
    try simp only [Act.put, List.setIfInBounds_toArray, List.set_cons_zero, List.set_cons_succ]
    refine h_take (i := 2) (d := some 7) (v := ?vc3) (by rfl) (by kernel_rfl) (by kernel_rfl) (by kernel_rfl) (fun _ _ _ h => by obtain ⟨_, _, _, _, _, _, _, _, _, h0, _⟩ := h; cases h0) (by rfl) ?hyc3 hHeld ?restc3
    case hyc3 =>
      intro o ho
      simp only [List.getElem?_toArray, List.getElem?_cons_succ, List.getElem?_cons_zero, Option.some.injEq] at ho
      subst ho
      rintro _ ⟨nw, rfl⟩
      first | (go_simp; done) | (go_simp; with_reducible rfl)
    try simp only [Act.put, List.setIfInBounds_toArray, List.set_cons_zero, List.set_cons_succ]
    refine h_take (i := 3) (d := some 8) (v := ?vc4) (by rfl) (by kernel_rfl) (by kernel_rfl) (by kernel_rfl) (fun _ _ _ h => by obtain ⟨_, _, _, _, _, _, _, _, _, h0, _⟩ := h; cases h0) (by rfl) ?hyc4 hHeld ?restc4
    case hyc4 =>
      intro o ho
      simp only [List.getElem?_toArray, List.getElem?_cons_succ, List.getElem?_cons_zero, Option.some.injEq] at ho
      subst ho
      rintro _ ⟨nw, rfl⟩
      first | (go_simp; done) | (go_simp; with_reducible rfl)
    try simp only [Act.put, List.setIfInBounds_toArray, List.set_cons_zero, List.set_cons_succ]
    refine h_take (i := 4) (d := some 9) (v := ?vc5) (by rfl) (by kernel_rfl) (by kernel_rfl) (by kernel_rfl) (fun _ _ _ h => by obtain ⟨_, _, _, _, _, _, _, _, _, h0, _⟩ := h; cases h0) (by rfl) ?hyc5 hHeld ?restc5
    case hyc5 =>
      intro o ho
      simp only [List.getElem?_toArray, List.getElem?_cons_succ, List.getElem?_cons_zero, Option.some.injEq] at ho
      subst ho
      rintro _ ⟨nw, rfl⟩
      first | (go_simp; done) | (go_simp; with_reducible rfl)
    try simp only [Act.put, List.setIfInBounds_toArray, List.set_cons_zero, List.set_cons_succ]
    refine h_take (i := 5) (d := some 10) (v := ?vc6) (by rfl) (by kernel_rfl) (by kernel_rfl) (by kernel_rfl) (fun _ _ _ h => by obtain ⟨_, _, _, _, _, _, _, _, _, h0, _⟩ := h; cases h0) (by rfl) ?hyc6 hHeld ?restc6
    case hyc6 =>
      intro o ho
      simp only [List.getElem?_toArray, List.getElem?_cons_succ, List.getElem?_cons_zero, Option.some.injEq] at ho
      subst ho
      rintro _ ⟨nw, rfl⟩
      first | (go_simp; done) | (go_simp; with_reducible rfl)
    try simp only [Act.put, List.setIfInBounds_toArray, List.set_cons_zero, List.set_cons_succ]
    refine h_take (i := 8) (d := some 13) (v := ?vc7) (by rfl) (by kernel_rfl) (by kernel_rfl) (by kernel_rfl) (fun _ _ _ h => by obtain ⟨_, _, _, _, _, _, _, _, _, h0, _⟩ := h; cases h0) (by rfl) ?hyc7 hHeld ?restc7
    case hyc7 =>
      intro o ho
      simp only [List.getElem?_toArray, List.getElem?_cons_succ, List.getElem?_cons_zero, Option.some.injEq] at ho
      subst ho
      rintro _ ⟨nw, rfl⟩
      first | (go_simp; done) | (go_simp; with_reducible rfl)
    try simp only [Act.put, List.setIfInBounds_toArray, List.set_cons_zero, List.set_cons_succ]
    refine h_take (i := 9) (d := some 14) (v := ?vc8) (by rfl) (by kernel_rfl) (by kernel_rfl) (by kernel_rfl) (fun _ _ _ h => by obtain ⟨_, _, _, _, _, _, _, _, _, h0, _⟩ := h; cases h0) (by rfl) ?hyc8 hHeld ?restc8
    case hyc8 =>
      intro o ho
      simp only [List.getElem?_toArray, List.getElem?_cons_succ, List.getElem?_cons_zero, Option.some.injEq] at ho
      subst ho
      rintro _ ⟨nw, rfl⟩
      first | (go_simp; done) | (go_simp; with_reducible rfl)
    try simp only [Act.put, List.setIfInBounds_toArray, List.set_cons_zero, List.set_cons_succ]
    refine h_take (i := 12) (d := some 17) (v := ?vc9) (by rfl) (by kernel_rfl) (by kernel_rfl) (by kernel_rfl) (fun _ _ _ h => by obtain ⟨_, _, _, _, _, _, _, _, _, h0, _⟩ := h; cases h0) (by rfl) ?hyc9 hHeld ?restc9
    case hyc9 =>
      intro o ho
      simp only [List.getElem?_toArray, List.getElem?_cons_succ, List.getElem?_cons_zero, Option.some.injEq] at ho
      subst ho
      rintro _ ⟨nw, rfl⟩
      first | (go_simp; done) | (go_simp; with_reducible rfl)
    try simp only [Act.put, List.setIfInBounds_toArray, List.set_cons_zero, List.set_cons_succ]
    refine h_take (i := 13) (d := some 18) (v := ?vc10) (by rfl) (by kernel_rfl) (by kernel_rfl) (by kernel_rfl) (fun _ _ _ h => by obtain ⟨_, _, _, _, _, _, _, _, _, h0, _⟩ := h; cases h0) (by rfl) ?hyc10 hHeld ?restc10
    case hyc10 =>
      intro o ho
      simp only [List.getElem?_toArray, List.getElem?_cons_succ, List.getElem?_cons_zero, Option.some.injEq] at ho
      subst ho
      rintro _ ⟨nw, rfl⟩
      first | (go_simp; done) | (go_simp; with_reducible rfl)
    try simp only [Act.put, List.setIfInBounds_toArray, List.set_cons_zero, List.set_cons_succ]
    refine wpAnyH_ready (rs := [6, 7, 11, 16]) (by kernel_rfl) (by simp) ?_
    refine AllReadyH.cons rfl (fun K hK => ?_) (AllReadyH.cons rfl (fun K hK => ?_) (AllReadyH.cons rfl (fun K hK => ?_) (AllReadyH.cons rfl (fun K hK => ?_) AllReadyH.nil)))
    · go_simp
      refine (l9Copy_any a1 n1 c1 d X0 HN1.out ((HRD.out _ hcur).1) HAC.out.1 hx1).mono ?_
      rintro e X1 ⟨z1, k1, rfl, hb, o1⟩
      have OX := OX.put (A := [noRow]) (B := [noRow, noRow]) (r := noRow) (r' := (rwD z1 n1 k1 d)) rfl hb o1 (Nat.le_refl _) hcur.size
      have hcur := below_after_of hcur hb
      clear hb o1
      refine hK.out _ _ (after_mk hcur) (fun hHeld => ?_)
      clear hK K
      try simp only [Act.put, List.setIfInBounds_toArray, List.set_cons_zero, List.set_cons_succ]
      refine wpAnyH_ready (rs := [7, 11, 16]) (by kernel_rfl) (by simp) ?_
      refine AllReadyH.cons rfl (fun K hK => ?_) (AllReadyH.cons rfl (fun K hK => ?_) (AllReadyH.cons rfl (fun K hK => ?_) AllReadyH.nil))
      · go_simp
        have OX := OX.put (A := [noRow, (rwD z1 n1 k1 d)]) (B := [noRow]) (r := noRow) (r' := (rwN0 X1.heap.size)) rfl (one_new (w := X1) (.cells #[] 57)) (none_cpSl X1) (Nat.le_refl _) hcur.size
        have hg7 : W.heap.size ≤ X1.heap.size := hcur.size
        have hcur := below_after_of hcur (one_new (w := X1) (.cells #[] 57))
        refine hK.out _ _ (after_mk hcur) (fun hHeld => ?_)
        clear hK K
        try simp only [Act.put, List.setIfInBounds_toArray, List.set_cons_zero, List.set_cons_succ]
        generalize hY : World.alloc X1 (.cells #[] 57) = X2 at *
        clear hY
        refine wpAnyH_ready (rs := [10, 11, 16]) (by kernel_rfl) (by simp) ?_
        refine AllReadyH.cons rfl (fun K hK => ?_) (AllReadyH.cons rfl (fun K hK => ?_) (AllReadyH.cons rfl (fun K hK => ?_) AllReadyH.nil))
        · rw [if_pos (by rfl)]
          refine wp_cpSl _ _ rfl W.heap.size X1.heap.size n2 c2 a2 n HN2.out (by rfl) (OX.own _ (List.mem_append_right [noRow, (rwD z1 n1 k1 d)] (List.Mem.head _))) (by rfl) ((HRD.out _ hcur).2.1) HAC.out.2.1 hx2 hcur.size ?_
          intro z2 k2 X3 o2 gr2 hb2
          have OX := OX.laid (A := [noRow, (rwD z1 n1 k1 d)]) (B := [noRow]) (r := (rwN0 X1.heap.size)) (r' := (rwN z2 n2 k2 n)) rfl gr2 o2 hb2 (Nat.le_refl _)
          have hcur := hcur.grown gr2 hcur.size (fun j e => by cases e; exact hg7)
          clear o2 gr2 hb2
          refine hK.out _ _ (after_mk hcur) (fun hHeld => ?_)
          clear hK K
          try simp only [Act.put, List.setIfInBounds_toArray]
          refine wpAnyH_ready (rs := [11, 16]) (by kernel_rfl) (by simp) ?_
          refine AllReadyH.cons rfl (fun K hK => ?_) (AllReadyH.cons rfl (fun K hK => ?_) AllReadyH.nil)
          · go_simp
            have OX := OX.put (A := [noRow, (rwD z1 n1 k1 d), (rwN z2 n2 k2 n)]) (B := []) (r := noRow) (r' := (rwH0 X3.heap.size)) rfl (one_new (w := X3) (.cells #[] 88)) (none_cpHd X3) (Nat.le_refl _) hcur.size
            have hg11 : W.heap.size ≤ X3.heap.size := hcur.size
            have hcur := below_after_of hcur (one_new (w := X3) (.cells #[] 88))
            refine hK.out _ _ (after_mk hcur) (fun hHeld => ?_)
            clear hK K
            try simp only [Act.put, List.setIfInBounds_toArray, List.set_cons_zero, List.set_cons_succ]
            generalize hY : World.alloc X3 (.cells #[] 88) = X4 at *
            clear hY
            refine wpAnyH_ready (rs := [14, 16]) (by kernel_rfl) (by simp) ?_
            refine AllReadyH.cons rfl (fun K hK => ?_) (AllReadyH.cons rfl (fun K hK => ?_) AllReadyH.nil)
            · rw [if_pos (by rfl)]
              refine wp_cpHd _ _ rfl W.heap.size X3.heap.size n3 c3 a3 h HN3.out (by rfl) (OX.own _ (List.mem_append_right [noRow, (rwD z1 n1 k1 d), (rwN z2 n2 k2 n)] (List.Mem.head _))) (by rfl) ((HRD.out _ hcur).2.2) HAC.out.2.2 hx3 hcur.size ?_
              intro z3 k3 X5 o2 gr2 hb2
              have OX := OX.laid (A := [noRow, (rwD z1 n1 k1 d), (rwN z2 n2 k2 n)]) (B := []) (r := (rwH0 X3.heap.size)) (r' := (rwH z3 n3 k3 h)) rfl gr2 o2 hb2 (Nat.le_refl _)
              have hcur := hcur.grown gr2 hcur.size (fun j e => by cases e; exact hg11)
              clear o2 gr2 hb2
              refine hK.out _ _ (after_mk hcur) (fun hHeld => ?_)
              clear hK K
              try simp only [Act.put, List.setIfInBounds_toArray]
              refine h_take (i := 15) (d := some 20) (v := ?vc11) (by rfl) (by kernel_rfl) (by kernel_rfl) (by kernel_rfl) (fun _ _ _ h => by obtain ⟨_, _, _, _, _, _, _, _, _, h0, _⟩ := h; cases h0) (by rfl) ?hyc11 hHeld ?restc11
              case hyc11 =>
                intro o ho
                simp only [List.getElem?_toArray, List.getElem?_cons_succ, List.getElem?_cons_zero, Option.some.injEq] at ho
                subst ho
                rintro _ ⟨nw, rfl⟩
                first | (go_simp; done) | (go_simp; with_reducible rfl)
              try simp only [Act.put]
              refine wpAnyH_ready (rs := [16]) (by kernel_rfl) (by simp) ?_
              refine AllReadyH.cons rfl (fun K hK => ?_) AllReadyH.nil
              go_simp
              have OX := OX.put (A := []) (B := [(rwD z1 n1 k1 d), (rwN z2 n2 k2 n), (rwH z3 n3 k3 h)]) (r := noRow) (r' := (rwB X5.heap.size)) rfl (one_new (w := X5) (.cells #[.int .i64 0, .int .i64 0, .slice none 0 0, .slice none 0 0, .slice none 0 0, .slice none 0 0] 38)) (box_row X5) (Nat.le_refl _) hcur.size
              have hbx : W.heap.size ≤ X5.heap.size := hcur.size
              have hcur := below_after_of hcur (one_new (w := X5) (.cells #[.int .i64 0, .int .i64 0, .slice none 0 0, .slice none 0 0, .slice none 0 0, .slice none 0 0] 38))
              refine hK.out _ _ (after_mk hcur) (fun hHeld => ?_)
              clear hK K
              try simp only [Act.put, List.setIfInBounds_toArray, List.set_cons_zero, List.set_cons_succ]
              generalize hY : World.alloc X5 (.cells #[.int .i64 0, .int .i64 0, .slice none 0 0, .slice none 0 0, .slice none 0 0, .slice none 0 0] 38) = X6 at *
              clear hY
              obtain ⟨e0, e1, e2, e3, e4, e5, f0, f1, f2, f3, f4, f5⟩ := box6_all OX
              refine wpAnyH_ready (rs := [17]) (by kernel_rfl) (by simp) ?_
              refine AllReadyH.cons rfl (fun K hK => ?_) AllReadyH.nil
              have OX := own_box6 OX (.int .i64 ph) (.int .i64 cu) (.slice z1 n1 k1) (.slice z2 n2 k2) (.slice z3 n3 k3) (.slice none 0 0)
              have hcur := below_box6 hcur hbx (.int .i64 ph) (.int .i64 cu) (.slice z1 n1 k1) (.slice z2 n2 k2) (.slice z3 n3 k3) (.slice none 0 0)
              go_simp
              refine hK.out _ _ (after_mk hcur) (fun hHeld => ?_)
              clear hK K
              try simp only [Act.put, List.setIfInBounds_toArray, List.set_cons_zero, List.set_cons_succ]
              refine wpAnyH_done (by kernel_rfl) ?_ _
              exact ⟨X5.heap.size, z1, k1, z2, k2, z3, k3, X1.heap.size, X3.heap.size, rfl, rfl, hcur, OX⟩
            · go_simp
              have OX := OX.put (A := []) (B := [(rwD z1 n1 k1 d), (rwN z2 n2 k2 n), (rwH0 X3.heap.size)]) (r := noRow) (r' := (rwB X4.heap.size)) rfl (one_new (w := X4) (.cells #[.int .i64 0, .int .i64 0, .slice none 0 0, .slice none 0 0, .slice none 0 0, .slice none 0 0] 38)) (box_row X4) (Nat.le_refl _) hcur.size
              have hbx : W.heap.size ≤ X4.heap.size := hcur.size
              have hcur := below_after_of hcur (one_new (w := X4) (.cells #[.int .i64 0, .int .i64 0, .slice none 0 0, .slice none 0 0, .slice none 0 0, .slice none 0 0] 38))
              refine hK.out _ _ (after_mk hcur) (fun hHeld => ?_)
              clear hK K
              try simp only [Act.put, List.setIfInBounds_toArray, List.set_cons_zero, List.set_cons_succ]
              generalize hY : World.alloc X4 (.cells #[.int .i64 0, .int .i64 0, .slice none 0 0, .slice none 0 0, .slice none 0 0, .slice none 0 0] 38) = X7 at *
              clear hY
              refine wpAnyH_ready (rs := [14]) (by kernel_rfl) (by simp) ?_
              refine AllReadyH.cons rfl (fun K hK => ?_) AllReadyH.nil
              rw [if_pos (by rfl)]
              refine wp_cpHd _ _ rfl W.heap.size X3.heap.size n3 c3 a3 h HN3.out (by rfl) (OX.own _ (List.mem_append_right [(rwB X4.heap.size), (rwD z1 n1 k1 d), (rwN z2 n2 k2 n)] (List.Mem.head _))) (by rfl) ((HRD.out _ hcur).2.2) HAC.out.2.2 hx3 hcur.size ?_
              intro z3 k3 X8 o2 gr2 hb2
              have OX := OX.laid (A := [(rwB X4.heap.size), (rwD z1 n1 k1 d), (rwN z2 n2 k2 n)]) (B := []) (r := (rwH0 X3.heap.size)) (r' := (rwH z3 n3 k3 h)) rfl gr2 o2 hb2 (Nat.le_refl _)
              have hcur := hcur.grown gr2 hcur.size (fun j e => by cases e; exact hg11)
              clear o2 gr2 hb2
              refine hK.out _ _ (after_mk hcur) (fun hHeld => ?_)
              clear hK K
              try simp only [Act.put, List.setIfInBounds_toArray]
              refine h_take (i := 15) (d := some 20) (v := ?vc12) (by rfl) (by kernel_rfl) (by kernel_rfl) (by kernel_rfl) (fun _ _ _ h => by obtain ⟨_, _, _, _, _, _, _, _, _, h0, _⟩ := h; cases h0) (by rfl) ?hyc12 hHeld ?restc12
              case hyc12 =>
                intro o ho
                simp only [List.getElem?_toArray, List.getElem?_cons_succ, List.getElem?_cons_zero, Option.some.injEq] at ho
                subst ho
                rintro _ ⟨nw, rfl⟩
                first | (go_simp; done) | (go_simp; with_reducible rfl)
              try simp only [Act.put]
              obtain ⟨e0, e1, e2, e3, e4, e5, f0, f1, f2, f3, f4, f5⟩ := box6_all OX
              refine wpAnyH_ready (rs := [17]) (by kernel_rfl) (by simp) ?_
              refine AllReadyH.cons rfl (fun K hK => ?_) AllReadyH.nil
              have OX := own_box6 OX (.int .i64 ph) (.int .i64 cu) (.slice z1 n1 k1) (.slice z2 n2 k2) (.slice z3 n3 k3) (.slice none 0 0)
              have hcur := below_box6 hcur hbx (.int .i64 ph) (.int .i64 cu) (.slice z1 n1 k1) (.slice z2 n2 k2) (.slice z3 n3 k3) (.slice none 0 0)
              go_simp
              refine hK.out _ _ (after_mk hcur) (fun hHeld => ?_)
              clear hK K
              try simp only [Act.put, List.setIfInBounds_toArray, List.set_cons_zero, List.set_cons_succ]
              refine wpAnyH_done (by kernel_rfl) ?_ _
              exact ⟨X4.heap.size, z1, k1, z2, k2, z3, k3, X1.heap.size, X3.heap.size, rfl, rfl, hcur, OX⟩
          · go_simp
            have OX := OX.put (A := []) (B := [(rwD z1 n1 k1 d), (rwN z2 n2 k2 n), noRow]) (r := noRow) (r' := (rwB X3.heap.size)) rfl (one_new (w := X3) (.cells #[.int .i64 0, .int .i64 0, .slice none 0 0, .slice none 0 0, .slice none 0 0, .slice none 0 0] 38)) (box_row X3) (Nat.le_refl _) hcur.size
            have hbx : W.heap.size ≤ X3.heap.size := hcur.size
            have hcur := below_after_of hcur (one_new (w := X3) (.cells #[.int .i64 0, .int .i64 0, .slice none 0 0, .slice none 0 0, .slice none 0 0, .slice none 0 0] 38))
            refine hK.out _ _ (after_mk hcur) (fun hHeld => ?_)
            clear hK K
            try simp only [Act.put, List.setIfInBounds_toArray, List.set_cons_zero, List.set_cons_succ]
            generalize hY : World.alloc X3 (.cells #[.int .i64 0, .int .i64 0, .slice none 0 0, .slice none 0 0, .slice none 0 0, .slice none 0 0] 38) = X9 at *
            clear hY
            refine wpAnyH_ready (rs := [11]) (by kernel_rfl) (by simp) ?_
            refine AllReadyH.cons rfl (fun K hK => ?_) AllReadyH.nil
            go_simp
            have OX := OX.put (A := [(rwB X3.heap.size), (rwD z1 n1 k1 d), (rwN z2 n2 k2 n)]) (B := []) (r := noRow) (r' := (rwH0 X9.heap.size)) rfl (one_new (w := X9) (.cells #[] 88)) (none_cpHd X9) (Nat.le_refl _) hcur.size
            have hg11 : W.heap.size ≤ X9.heap.size := hcur.size
            have hcur := below_after_of hcur (one_new (w := X9) (.cells #[] 88))
            refine hK.out _ _ (after_mk hcur) (fun hHeld => ?_)
            clear hK K
            try simp only [Act.put, List.setIfInBounds_toArray, List.set_cons_zero, List.set_cons_succ]
            generalize hY : World.alloc X9 (.cells #[] 88) = X10 at *
            clear hY
            refine wpAnyH_ready (rs := [14]) (by kernel_rfl) (by simp) ?_
            refine AllReadyH.cons rfl (fun K hK => ?_) AllReadyH.nil
            rw [if_pos (by rfl)]
            refine wp_cpHd _ _ rfl W.heap.size X9.heap.size n3 c3 a3 h HN3.out (by rfl) (OX.own _ (List.mem_append_right [(rwB X3.heap.size), (rwD z1 n1 k1 d), (rwN z2 n2 k2 n)] (List.Mem.head _))) (by rfl) ((HRD.out _ hcur).2.2) HAC.out.2.2 hx3 hcur.size ?_
            intro z3 k3 X11 o2 gr2 hb2
            have OX := OX.laid (A := [(rwB X3.heap.size), (rwD z1 n1 k1 d), (rwN z2 n2 k2 n)]) (B := []) (r := (rwH0 X9.heap.size)) (r' := (rwH z3 n3 k3 h)) rfl gr2 o2 hb2 (Nat.le_refl _)
            have hcur := hcur.grown gr2 hcur.size (fun j e => by cases e; exact hg11)
            clear o2 gr2 hb2
            refine hK.out _ _ (after_mk hcur) (fun hHeld => ?_)
            clear hK K
            try simp only [Act.put, List.setIfInBounds_toArray]
            refine h_take (i := 15) (d := some 20) (v := ?vc13) (by rfl) (by kernel_rfl) (by kernel_rfl) (by kernel_rfl) (fun _ _ _ h => by obtain ⟨_, _, _, _, _, _, _, _, _, h0, _⟩ := h; cases h0) (by rfl) ?hyc13 hHeld ?restc13
            case hyc13 =>
              intro o ho
              simp only [List.getElem?_toArray, List.getElem?_cons_succ, List.getElem?_cons_zero, Option.some.injEq] at ho
              subst ho
              rintro _ ⟨nw, rfl⟩
              first | (go_simp; done) | (go_simp; with_reducible rfl)
            try simp only [Act.put]
            obtain ⟨e0, e1, e2, e3, e4, e5, f0, f1, f2, f3, f4, f5⟩ := box6_all OX
            refine wpAnyH_ready (rs := [17]) (by kernel_rfl) (by simp) ?_
            refine AllReadyH.cons rfl (fun K hK => ?_) AllReadyH.nil
            have OX := own_box6 OX (.int .i64 ph) (.int .i64 cu) (.slice z1 n1 k1) (.slice z2 n2 k2) (.slice z3 n3 k3) (.slice none 0 0)
            have hcur := below_box6 hcur hbx (.int .i64 ph) (.int .i64 cu) (.slice z1 n1 k1) (.slice z2 n2 k2) (.slice z3 n3 k3) (.slice none 0 0)
            go_simp
            refine hK.out _ _ (after_mk hcur) (fun hHeld => ?_)
            clear hK K
            try simp only [Act.put, List.setIfInBounds_toArray, List.set_cons_zero, List.set_cons_succ]
            refine wpAnyH_done (by kernel_rfl) ?_ _
            exact ⟨X3.heap.size, z1, k1, z2, k2, z3, k3, X1.heap.size, X9.heap.size, rfl, rfl, hcur, OX⟩
        · go_simp
          have OX := OX.put (A := [noRow, (rwD z1 n1 k1 d), (rwN0 X1.heap.size)]) (B := []) (r := noRow) (r' := (rwH0 X2.heap.size)) rfl (one_new (w := X2) (.cells #[] 88)) (none_cpHd X2) (Nat.le_refl _) hcur.size
          have hg11 : W.heap.size ≤ X2.heap.size := hcur.size
          have hcur := below_after_of hcur (one_new (w := X2) (.cells #[] 88))
          refine hK.out _ _ (after_mk hcur) (fun hHeld => ?_)
          clear hK K
          try simp only [Act.put, List.setIfInBounds_toArray, List.set_cons_zero, List.set_cons_succ]
          generalize hY : World.alloc X2 (.cells #[] 88) = X12 at *
          clear hY
          refine wpAnyH_ready (rs := [10, 16]) (by kernel_rfl) (by simp) ?_
          refine AllReadyH.cons rfl (fun K hK => ?_) (AllReadyH.cons rfl (fun K hK => ?_) AllReadyH.nil)
          · rw [if_pos (by rfl)]
            refine wp_cpSl _ _ rfl W.heap.size X1.heap.size n2 c2 a2 n HN2.out (by rfl) (OX.own _ (List.mem_append_right [noRow, (rwD z1 n1 k1 d)] (List.Mem.head _))) (by rfl) ((HRD.out _ hcur).2.1) HAC.out.2.1 hx2 hcur.size ?_
            intro z2 k2 X13 o2 gr2 hb2
            have OX := OX.laid (A := [noRow, (rwD z1 n1 k1 d)]) (B := [(rwH0 X2.heap.size)]) (r := (rwN0 X1.heap.size)) (r' := (rwN z2 n2 k2 n)) rfl gr2 o2 hb2 (Nat.le_refl _)
            have hcur := hcur.grown gr2 hcur.size (fun j e => by cases e; exact hg7)
            clear o2 gr2 hb2
            refine hK.out _ _ (after_mk hcur) (fun hHeld => ?_)
            clear hK K
            try simp only [Act.put, List.setIfInBounds_toArray]
            refine wpAnyH_ready (rs := [14, 16]) (by kernel_rfl) (by simp) ?_
            refine AllReadyH.cons rfl (fun K hK => ?_) (AllReadyH.cons rfl (fun K hK => ?_) AllReadyH.nil)
            · rw [if_pos (by rfl)]
              refine wp_cpHd _ _ rfl W.heap.size X2.heap.size n3 c3 a3 h HN3.out (by rfl) (OX.own _ (List.mem_append_right [noRow, (rwD z1 n1 k1 d), (rwN z2 n2 k2 n)] (List.Mem.head _))) (by rfl) ((HRD.out _ hcur).2.2) HAC.out.2.2 hx3 hcur.size ?_
              intro z3 k3 X14 o2 gr2 hb2
              have OX := OX.laid (A := [noRow, (rwD z1 n1 k1 d), (rwN z2 n2 k2 n)]) (B := []) (r := (rwH0 X2.heap.size)) (r' := (rwH z3 n3 k3 h)) rfl gr2 o2 hb2 (Nat.le_refl _)
              have hcur := hcur.grown gr2 hcur.size (fun j e => by cases e; exact hg11)
              clear o2 gr2 hb2
              refine hK.out _ _ (after_mk hcur) (fun hHeld => ?_)
              clear hK K
              try simp only [Act.put]
              refine h_take (i := 15) (d := some 20) (v := ?vc14) (by rfl) (by kernel_rfl) (by kernel_rfl) (by kernel_rfl) (fun _ _ _ h => by obtain ⟨_, _, _, _, _, _, _, _, _, h0, _⟩ := h; cases h0) (by rfl) ?hyc14 hHeld ?restc14
              case hyc14 =>
                intro o ho
                simp only [List.getElem?_toArray, List.getElem?_cons_succ, List.getElem?_cons_zero, Option.some.injEq] at ho
                subst ho
                rintro _ ⟨nw, rfl⟩
                first | (go_simp; done) | (go_simp; with_reducible rfl)
              try simp only [Act.put]
              refine wpAnyH_ready (rs := [16]) (by kernel_rfl) (by simp) ?_
              refine AllReadyH.cons rfl (fun K hK => ?_) AllReadyH.nil
              go_simp
              have OX := OX.put (A := []) (B := [(rwD z1 n1 k1 d), (rwN z2 n2 k2 n), (rwH z3 n3 k3 h)]) (r := noRow) (r' := (rwB X14.heap.size)) rfl (one_new (w := X14) (.cells #[.int .i64 0, .int .i64 0, .slice none 0 0, .slice none 0 0, .slice none 0 0, .slice none 0 0] 38)) (box_row X14) (Nat.le_refl _) hcur.size
              have hbx : W.heap.size ≤ X14.heap.size := hcur.size
              have hcur := below_after_of hcur (one_new (w := X14) (.cells #[.int .i64 0, .int .i64 0, .slice none 0 0, .slice none 0 0, .slice none 0 0, .slice none 0 0] 38))
              refine hK.out _ _ (after_mk hcur) (fun hHeld => ?_)
              clear hK K
              try simp only [Act.put, List.setIfInBounds_toArray, List.set_cons_zero, List.set_cons_succ]
              generalize hY : World.alloc X14 (.cells #[.int .i64 0, .int .i64 0, .slice none 0 0, .slice none 0 0, .slice none 0 0, .slice none 0 0] 38) = X15 at *
              clear hY
              obtain ⟨e0, e1, e2, e3, e4, e5, f0, f1, f2, f3, f4, f5⟩ := box6_all OX
              refine wpAnyH_ready (rs := [17]) (by kernel_rfl) (by simp) ?_
              refine AllReadyH.cons rfl (fun K hK => ?_) AllReadyH.nil
              have OX := own_box6 OX (.int .i64 ph) (.int .i64 cu) (.slice z1 n1 k1) (.slice z2 n2 k2) (.slice z3 n3 k3) (.slice none 0 0)
              have hcur := below_box6 hcur hbx (.int .i64 ph) (.int .i64 cu) (.slice z1 n1 k1) (.slice z2 n2 k2) (.slice z3 n3 k3) (.slice none 0 0)
              go_simp
              refine hK.out _ _ (after_mk hcur) (fun hHeld => ?_)
              clear hK K
              try simp only [Act.put, List.setIfInBounds_toArray, List.set_cons_zero, List.set_cons_succ]
              refine wpAnyH_done (by kernel_rfl) ?_ _
              exact ⟨X14.heap.size, z1, k1, z2, k2, z3, k3, X1.heap.size, X2.heap.size, rfl, rfl, hcur, OX⟩
            · go_simp
              have OX := OX.put (A := []) (B := [(rwD z1 n1 k1 d), (rwN z2 n2 k2 n), (rwH0 X2.heap.size)]) (r := noRow) (r' := (rwB X13.heap.size)) rfl (one_new (w := X13) (.cells #[.int .i64 0, .int .i64 0, .slice none 0 0, .slice none 0 0, .slice none 0 0, .slice none 0 0] 38)) (box_row X13) (Nat.le_refl _) hcur.size
              have hbx : W.heap.size ≤ X13.heap.size := hcur.size
              have hcur := below_after_of hcur (one_new (w := X13) (.cells #[.int .i64 0, .int .i64 0, .slice none 0 0, .slice none 0 0, .slice none 0 0, .slice none 0 0] 38))
              refine hK.out _ _ (after_mk hcur) (fun hHeld => ?_)
              clear hK K
              try simp only [Act.put, List.setIfInBounds_toArray, List.set_cons_zero, List.set_cons_succ]
              generalize hY : World.alloc X13 (.cells #[.int .i64 0, .int .i64 0, .slice none 0 0, .slice none 0 0, .slice none 0 0, .slice none 0 0] 38) = X16 at *
              clear hY
              refine wpAnyH_ready (rs := [14]) (by kernel_rfl) (by simp) ?_
              refine AllReadyH.cons rfl (fun K hK => ?_) AllReadyH.nil
              rw [if_pos (by rfl)]
              refine wp_cpHd _ _ rfl W.heap.size X2.heap.size n3 c3 a3 h HN3.out (by rfl) (OX.own _ (List.mem_append_right [(rwB X13.heap.size), (rwD z1 n1 k1 d), (rwN z2 n2 k2 n)] (List.Mem.head _))) (by rfl) ((HRD.out _ hcur).2.2) HAC.out.2.2 hx3 hcur.size ?_
              intro z3 k3 X17 o2 gr2 hb2
              have OX := OX.laid (A := [(rwB X13.heap.size), (rwD z1 n1 k1 d), (rwN z2 n2 k2 n)]) (B := []) (r := (rwH0 X2.heap.size)) (r' := (rwH z3 n3 k3 h)) rfl gr2 o2 hb2 (Nat.le_refl _)
              have hcur := hcur.grown gr2 hcur.size (fun j e => by cases e; exact hg11)
              clear o2 gr2 hb2
              refine hK.out _ _ (after_mk hcur) (fun hHeld => ?_)
              clear hK K
              try simp only [Act.put, List.setIfInBounds_toArray]
              refine h_take (i := 15) (d := some 20) (v := ?vc15) (by rfl) (by kernel_rfl) (by kernel_rfl) (by kernel_rfl) (fun _ _ _ h => by obtain ⟨_, _, _, _, _, _, _, _, _, h0, _⟩ := h; cases h0) (by rfl) ?hyc15 hHeld ?restc15
              case hyc15 =>
                intro o ho
                simp only [List.getElem?_toArray, List.getElem?_cons_succ, List.getElem?_cons_zero, Option.some.injEq] at ho
                subst ho
                rintro _ ⟨nw, rfl⟩
                first | (go_simp; done) | (go_simp; with_reducible rfl)
              try simp only [Act.put]
              obtain ⟨e0, e1, e2, e3, e4, e5, f0, f1, f2, f3, f4, f5⟩ := box6_all OX
              refine wpAnyH_ready (rs := [17]) (by kernel_rfl) (by simp) ?_
              refine AllReadyH.cons rfl (fun K hK => ?_) AllReadyH.nil
              have OX := own_box6 OX (.int .i64 ph) (.int .i64 cu) (.slice z1 n1 k1) (.slice z2 n2 k2) (.slice z3 n3 k3) (.slice none 0 0)
              have hcur := below_box6 hcur hbx (.int .i64 ph) (.int .i64 cu) (.slice z1 n1 k1) (.slice z2 n2 k2) (.slice z3 n3 k3) (.slice none 0 0)
              go_simp
              refine hK.out _ _ (after_mk hcur) (fun hHeld => ?_)
              clear hK K
              try simp only [Act.put, List.setIfInBounds_toArray, List.set_cons_zero, List.set_cons_succ]
              refine wpAnyH_done (by kernel_rfl) ?_ _
              exact ⟨X13.heap.size, z1, k1, z2, k2, z3, k3, X1.heap.size, X2.heap.size, rfl, rfl, hcur, OX⟩
          · go_simp
            have OX := OX.put (A := []) (B := [(rwD z1 n1 k1 d), (rwN0 X1.heap.size), (rwH0 X2.heap.size)]) (r := noRow) (r' := (rwB X12.heap.size)) rfl (one_new (w := X12) (.cells #[.int .i64 0, .int .i64 0, .slice none 0 0, .slice none 0 0, .slice none 0 0, .slice none 0 0] 38)) (box_row X12) (Nat.le_refl _) hcur.size
            have hbx : W.heap.size ≤ X12.heap.size := hcur.size
            have hcur := below_after_of hcur (one_new (w := X12) (.cells #[.int .i64 0, .int .i64 0, .slice none 0 0, .slice none 0 0, .slice none 0 0, .slice none 0 0] 38))
            refine hK.out _ _ (after_mk hcur) (fun hHeld => ?_)
            clear hK K
            try simp only [Act.put, List.setIfInBounds_toArray, List.set_cons_zero, List.set_cons_succ]
            generalize hY : World.alloc X12 (.cells #[.int .i64 0, .int .i64 0, .slice none 0 0, .slice none 0 0, .slice none 0 0, .slice none 0 0] 38) = X18 at *
            clear hY
            refine wpAnyH_ready (rs := [10]) (by kernel_rfl) (by simp) ?_
            refine AllReadyH.cons rfl (fun K hK => ?_) AllReadyH.nil
            rw [if_pos (by rfl)]
            refine wp_cpSl _ _ rfl W.heap.size X1.heap.size n2 c2 a2 n HN2.out (by rfl) (OX.own _ (List.mem_append_right [(rwB X12.heap.size), (rwD z1 n1 k1 d)] (List.Mem.head _))) (by rfl) ((HRD.out _ hcur).2.1) HAC.out.2.1 hx2 hcur.size ?_
            intro z2 k2 X19 o2 gr2 hb2
            have OX := OX.laid (A := [(rwB X12.heap.size), (rwD z1 n1 k1 d)]) (B := [(rwH0 X2.heap.size)]) (r := (rwN0 X1.heap.size)) (r' := (rwN z2 n2 k2 n)) rfl gr2 o2 hb2 (Nat.le_refl _)
            have hcur := hcur.grown gr2 hcur.size (fun j e => by cases e; exact hg7)
            clear o2 gr2 hb2
            refine hK.out _ _ (after_mk hcur) (fun hHeld => ?_)
            clear hK K
            try simp only [Act.put, List.setIfInBounds_toArray]
            refine wpAnyH_ready (rs := [14]) (by kernel_rfl) (by simp) ?_
            refine AllReadyH.cons rfl (fun K hK => ?_) AllReadyH.nil
            rw [if_pos (by rfl)]
            refine wp_cpHd _ _ rfl W.heap.size X2.heap.size n3 c3 a3 h HN3.out (by rfl) (OX.own _ (List.mem_append_right [(rwB X12.heap.size), (rwD z1 n1 k1 d), (rwN z2 n2 k2 n)] (List.Mem.head _))) (by rfl) ((HRD.out _ hcur).2.2) HAC.out.2.2 hx3 hcur.size ?_
            intro z3 k3 X20 o2 gr2 hb2
            have OX := OX.laid (A := [(rwB X12.heap.size), (rwD z1 n1 k1 d), (rwN z2 n2 k2 n)]) (B := []) (r := (rwH0 X2.heap.size)) (r' := (rwH z3 n3 k3 h)) rfl gr2 o2 hb2 (Nat.le_refl _)
            have hcur := hcur.grown gr2 hcur.size (fun j e => by cases e; exact hg11)
            clear o2 gr2 hb2
            refine hK.out _ _ (after_mk hcur) (fun hHeld => ?_)
            clear hK K
            try simp only [Act.put]
            refine h_take (i := 15) (d := some 20) (v := ?vc16) (by rfl) (by kernel_rfl) (by kernel_rfl) (by kernel_rfl) (fun _ _ _ h => by obtain ⟨_, _, _, _, _, _, _, _, _, h0, _⟩ := h; cases h0) (by rfl) ?hyc16 hHeld ?restc16
            case hyc16 =>
              intro o ho
              simp only [List.getElem?_toArray, List.getElem?_cons_succ, List.getElem?_cons_zero, Option.some.injEq] at ho
              subst ho
              rintro _ ⟨nw, rfl⟩
              first | (go_simp; done) | (go_simp; with_reducible rfl)
            try simp only [Act.put]
            obtain ⟨e0, e1, e2, e3, e4, e5, f0, f1, f2, f3, f4, f5⟩ := box6_all OX
            refine wpAnyH_ready (rs := [17]) (by kernel_rfl) (by simp) ?_
            refine AllReadyH.cons rfl (fun K hK => ?_) AllReadyH.nil
            have OX := own_box6 OX (.int .i64 ph) (.int .i64 cu) (.slice z1 n1 k1) (.slice z2 n2 k2) (.slice z3 n3 k3) (.slice none 0 0)
            have hcur := below_box6 hcur hbx (.int .i64 ph) (.int .i64 cu) (.slice z1 n1 k1) (.slice z2 n2 k2) (.slice z3 n3 k3) (.slice none 0 0)
            go_simp
            refine hK.out _ _ (after_mk hcur) (fun hHeld => ?_)
            clear hK K
            try simp only [Act.put, List.setIfInBounds_toArray, List.set_cons_zero, List.set_cons_succ]
            refine wpAnyH_done (by kernel_rfl) ?_ _
            exact ⟨X12.heap.size, z1, k1, z2, k2, z3, k3, X1.heap.size, X2.heap.size, rfl, rfl, hcur, OX⟩
        · go_simp
          have OX := OX.put (A := []) (B := [(rwD z1 n1 k1 d), (rwN0 X1.heap.size), noRow]) (r := noRow) (r' := (rwB X2.heap.size)) rfl (one_new (w := X2) (.cells #[.int .i64 0, .int .i64 0, .slice none 0 0, .slice none 0 0, .slice none 0 0, .slice none 0 0] 38)) (box_row X2) (Nat.le_refl _) hcur.size
          have hbx : W.heap.size ≤ X2.heap.size := hcur.size
          have hcur := below_after_of hcur (one_new (w := X2) (.cells #[.int .i64 0, .int .i64 0, .slice none 0 0, .slice none 0 0, .slice none 0 0, .slice none 0 0] 38))
          refine hK.out _ _ (after_mk hcur) (fun hHeld => ?_)
          clear hK K
          try simp only [Act.put, List.setIfInBounds_toArray, List.set_cons_zero, List.set_cons_succ]
          generalize hY : World.alloc X2 (.cells #[.int .i64 0, .int .i64 0, .slice none 0 0, .slice none 0 0, .slice none 0 0, .slice none 0 0] 38) = X21 at *
          clear hY
          refine wpAnyH_ready (rs := [10, 11]) (by kernel_rfl) (by simp) ?_
          refine AllReadyH.cons rfl (fun K hK => ?_) (AllReadyH.cons rfl (fun K hK => ?_) AllReadyH.nil)
          · rw [if_pos (by rfl)]
            refine wp_cpSl _ _ rfl W.heap.size X1.heap.size n2 c2 a2 n HN2.out (by rfl) (OX.own _ (List.mem_append_right [(rwB X2.heap.size), (rwD z1 n1 k1 d)] (List.Mem.head _))) (by rfl) ((HRD.out _ hcur).2.1) HAC.out.2.1 hx2 hcur.size ?_
            intro z2 k2 X22 o2 gr2 hb2
            have OX := OX.laid (A := [(rwB X2.heap.size), (rwD z1 n1 k1 d)]) (B := [noRow]) (r := (rwN0 X1.heap.size)) (r' := (rwN z2 n2 k2 n)) rfl gr2 o2 hb2 (Nat.le_refl _)
            have hcur := hcur.grown gr2 hcur.size (fun j e => by cases e; exact hg7)
            clear o2 gr2 hb2
            refine hK.out _ _ (after_mk hcur) (fun hHeld => ?_)
            clear hK K
            try simp only [Act.put, List.setIfInBounds_toArray]
            refine wpAnyH_ready (rs := [11]) (by kernel_rfl) (by simp) ?_
            refine AllReadyH.cons rfl (fun K hK => ?_) AllReadyH.nil
            go_simp
            have OX := OX.put (A := [(rwB X2.heap.size), (rwD z1 n1 k1 d), (rwN z2 n2 k2 n)]) (B := []) (r := noRow) (r' := (rwH0 X22.heap.size)) rfl (one_new (w := X22) (.cells #[] 88)) (none_cpHd X22) (Nat.le_refl _) hcur.size
            have hg11 : W.heap.size ≤ X22.heap.size := hcur.size
            have hcur := below_after_of hcur (one_new (w := X22) (.cells #[] 88))
            refine hK.out _ _ (after_mk hcur) (fun hHeld => ?_)
            clear hK K
            try simp only [Act.put, List.setIfInBounds_toArray, List.set_cons_zero, List.set_cons_succ]
            generalize hY : World.alloc X22 (.cells #[] 88) = X23 at *
            clear hY
            refine wpAnyH_ready (rs := [14]) (by kernel_rfl) (by simp) ?_
            refine AllReadyH.cons rfl (fun K hK => ?_) AllReadyH.nil
            rw [if_pos (by rfl)]
            refine wp_cpHd _ _ rfl W.heap.size X22.heap.size n3 c3 a3 h HN3.out (by rfl) (OX.own _ (List.mem_append_right [(rwB X2.heap.size), (rwD z1 n1 k1 d), (rwN z2 n2 k2 n)] (List.Mem.head _))) (by rfl) ((HRD.out _ hcur).2.2) HAC.out.2.2 hx3 hcur.size ?_
            intro z3 k3 X24 o2 gr2 hb2
            have OX := OX.laid (A := [(rwB X2.heap.size), (rwD z1 n1 k1 d), (rwN z2 n2 k2 n)]) (B := []) (r := (rwH0 X22.heap.size)) (r' := (rwH z3 n3 k3 h)) rfl gr2 o2 hb2 (Nat.le_refl _)
            have hcur := hcur.grown gr2 hcur.size (fun j e => by cases e; exact hg11)
            clear o2 gr2 hb2
            refine hK.out _ _ (after_mk hcur) (fun hHeld => ?_)
            clear hK K
            try simp only [Act.put, List.setIfInBounds_toArray]
            refine h_take (i := 15) (d := some 20) (v := ?vc17) (by rfl) (by kernel_rfl) (by kernel_rfl) (by kernel_rfl) (fun _ _ _ h => by obtain ⟨_, _, _, _, _, _, _, _, _, h0, _⟩ := h; cases h0) (by rfl) ?hyc17 hHeld ?restc17
            case hyc17 =>
              intro o ho
              simp only [List.getElem?_toArray, List.getElem?_cons_succ, List.getElem?_cons_zero, Option.some.injEq] at ho
              subst ho
              rintro _ ⟨nw, rfl⟩
              first | (go_simp; done) | (go_simp; with_reducible rfl)
            try simp only [Act.put]
            obtain ⟨e0, e1, e2, e3, e4, e5, f0, f1, f2, f3, f4, f5⟩ := box6_all OX
            refine wpAnyH_ready (rs := [17]) (by kernel_rfl) (by simp) ?_
            refine AllReadyH.cons rfl (fun K hK => ?_) AllReadyH.nil
            have OX := own_box6 OX (.int .i64 ph) (.int .i64 cu) (.slice z1 n1 k1) (.slice z2 n2 k2) (.slice z3 n3 k3) (.slice none 0 0)
            have hcur := below_box6 hcur hbx (.int .i64 ph) (.int .i64 cu) (.slice z1 n1 k1) (.slice z2 n2 k2) (.slice z3 n3 k3) (.slice none 0 0)
            go_simp
            refine hK.out _ _ (after_mk hcur) (fun hHeld => ?_)
            clear hK K
            try simp only [Act.put, List.setIfInBounds_toArray, List.set_cons_zero, List.set_cons_succ]
            refine wpAnyH_done (by kernel_rfl) ?_ _
            exact ⟨X2.heap.size, z1, k1, z2, k2, z3, k3, X1.heap.size, X22.heap.size, rfl, rfl, hcur, OX⟩
          · go_simp
            have OX := OX.put (A := [(rwB X2.heap.size), (rwD z1 n1 k1 d), (rwN0 X1.heap.size)]) (B := []) (r := noRow) (r' := (rwH0 X21.heap.size)) rfl (one_new (w := X21) (.cells #[] 88)) (none_cpHd X21) (Nat.le_refl _) hcur.size
            have hg11 : W.heap.size ≤ X21.heap.size := hcur.size
            have hcur := below_after_of hcur (one_new (w := X21) (.cells #[] 88))
            refine hK.out _ _ (after_mk hcur) (fun hHeld => ?_)
            clear hK K
            try simp only [Act.put, List.setIfInBounds_toArray, List.set_cons_zero, List.set_cons_succ]
            generalize hY : World.alloc X21 (.cells #[] 88) = X25 at *
            clear hY
            refine wpAnyH_ready (rs := [10]) (by kernel_rfl) (by simp) ?_
            refine AllReadyH.cons rfl (fun K hK => ?_) AllReadyH.nil
            rw [if_pos (by rfl)]
            refine wp_cpSl _ _ rfl W.heap.size X1.heap.size n2 c2 a2 n HN2.out (by rfl) (OX.own _ (List.mem_append_right [(rwB X2.heap.size), (rwD z1 n1 k1 d)] (List.Mem.head _))) (by rfl) ((HRD.out _ hcur).2.1) HAC.out.2.1 hx2 hcur.size ?_
            intro z2 k2 X26 o2 gr2 hb2
            have OX := OX.laid (A := [(rwB X2.heap.size), (rwD z1 n1 k1 d)]) (B := [(rwH0 X21.heap.size)]) (r := (rwN0 X1.heap.size)) (r' := (rwN z2 n2 k2 n)) rfl gr2 o2 hb2 (Nat.le_refl _)
            have hcur := hcur.grown gr2 hcur.size (fun j e => by cases e; exact hg7)
            clear o2 gr2 hb2
            refine hK.out _ _ (after_mk hcur) (fun hHeld => ?_)
            clear hK K
            try simp only [Act.put, List.setIfInBounds_toArray]
            refine wpAnyH_ready (rs := [14]) (by kernel_rfl) (by simp) ?_
            refine AllReadyH.cons rfl (fun K hK => ?_) AllReadyH.nil
            rw [if_pos (by rfl)]
            refine wp_cpHd _ _ rfl W.heap.size X21.heap.size n3 c3 a3 h HN3.out (by rfl) (OX.own _ (List.mem_append_right [(rwB X2.heap.size), (rwD z1 n1 k1 d), (rwN z2 n2 k2 n)] (List.Mem.head _))) (by rfl) ((HRD.out _ hcur).2.2) HAC.out.2.2 hx3 hcur.size ?_
            intro z3 k3 X27 o2 gr2 hb2
            have OX := OX.laid (A := [(rwB X2.heap.size), (rwD z1 n1 k1 d), (rwN z2 n2 k2 n)]) (B := []) (r := (rwH0 X21.heap.size)) (r' := (rwH z3 n3 k3 h)) rfl gr2 o2 hb2 (Nat.le_refl _)
            have hcur := hcur.grown gr2 hcur.size (fun j e => by cases e; exact hg11)
            clear o2 gr2 hb2
            refine hK.out _ _ (after_mk hcur) (fun hHeld => ?_)
            clear hK K
            try simp only [Act.put]
            refine h_take (i := 15) (d := some 20) (v := ?vc18) (by rfl) (by kernel_rfl) (by kernel_rfl) (by kernel_rfl) (fun _ _ _ h => by obtain ⟨_, _, _, _, _, _, _, _, _, h0, _⟩ := h; cases h0) (by rfl) ?hyc18 hHeld ?restc18
            case hyc18 =>
              intro o ho
              simp only [List.getElem?_toArray, List.getElem?_cons_succ, List.getElem?_cons_zero, Option.some.injEq] at ho
              subst ho
              rintro _ ⟨nw, rfl⟩
              first | (go_simp; done) | (go_simp; with_reducible rfl)
            try simp only [Act.put]
            obtain ⟨e0, e1, e2, e3, e4, e5, f0, f1, f2, f3, f4, f5⟩ := box6_all OX
            refine wpAnyH_ready (rs := [17]) (by kernel_rfl) (by simp) ?_
            refine AllReadyH.cons rfl (fun K hK => ?_) AllReadyH.nil
            have OX := own_box6 OX (.int .i64 ph) (.int .i64 cu) (.slice z1 n1 k1) (.slice z2 n2 k2) (.slice z3 n3 k3) (.slice none 0 0)
            have hcur := below_box6 hcur hbx (.int .i64 ph) (.int .i64 cu) (.slice z1 n1 k1) (.slice z2 n2 k2) (.slice z3 n3 k3) (.slice none 0 0)
            go_simp
            refine hK.out _ _ (after_mk hcur) (fun hHeld => ?_)
            clear hK K
            try simp only [Act.put, List.setIfInBounds_toArray, List.set_cons_zero, List.set_cons_succ]
            refine wpAnyH_done (by kernel_rfl) ?_ _
            exact ⟨X2.heap.size, z1, k1, z2, k2, z3, k3, X1.heap.size, X21.heap.size, rfl, rfl, hcur, OX⟩
      · go_simp
        have OX := OX.put (A := [noRow, (rwD z1 n1 k1 d), noRow]) (B := []) (r := noRow) (r' := (rwH0 X1.heap.size)) rfl (one_new (w := X1) (.cells #[] 88)) (none_cpHd X1) (Nat.le_refl _) hcur.size
        have hg11 : W.heap.size ≤ X1.heap.size := hcur.size
        have hcur := below_after_of hcur (one_new (w := X1) (.cells #[] 88))
        refine hK.out _ _ (after_mk hcur) (fun hHeld => ?_)
        clear hK K
        try simp only [Act.put, List.setIfInBounds_toArray, List.set_cons_zero, List.set_cons_succ]
        generalize hY : World.alloc X1 (.cells #[] 88) = X28 at *
        clear hY
        refine wpAnyH_ready (rs := [7, 16]) (by kernel_rfl) (by simp) ?_
        refine AllReadyH.cons rfl (fun K hK => ?_) (AllReadyH.cons rfl (fun K hK => ?_) AllReadyH.nil)
        · go_simp
          have OX := OX.put (A := [noRow, (rwD z1 n1 k1 d)]) (B := [(rwH0 X1.heap.size)]) (r := noRow) (r' := (rwN0 X28.heap.size)) rfl (one_new (w := X28) (.cells #[] 57)) (none_cpSl X28) (Nat.le_refl _) hcur.size
          have hg7 : W.heap.size ≤ X28.heap.size := hcur.size
          have hcur := below_after_of hcur (one_new (w := X28) (.cells #[] 57))
          refine hK.out _ _ (after_mk hcur) (fun hHeld => ?_)
          clear hK K
          try simp only [Act.put, List.setIfInBounds_toArray, List.set_cons_zero, List.set_cons_succ]
          generalize hY : World.alloc X28 (.cells #[] 57) = X29 at *
          clear hY
          refine wpAnyH_ready (rs := [10, 16]) (by kernel_rfl) (by simp) ?_
          refine AllReadyH.cons rfl (fun K hK => ?_) (AllReadyH.cons rfl (fun K hK => ?_) AllReadyH.nil)
          · rw [if_pos (by rfl)]
            refine wp_cpSl _ _ rfl W.heap.size X28.heap.size n2 c2 a2 n HN2.out (by rfl) (OX.own _ (List.mem_append_right [noRow, (rwD z1 n1 k1 d)] (List.Mem.head _))) (by rfl) ((HRD.out _ hcur).2.1) HAC.out.2.1 hx2 hcur.size ?_
            intro z2 k2 X30 o2 gr2 hb2
            have OX := OX.laid (A := [noRow, (rwD z1 n1 k1 d)]) (B := [(rwH0 X1.heap.size)]) (r := (rwN0 X28.heap.size)) (r' := (rwN z2 n2 k2 n)) rfl gr2 o2 hb2 (Nat.le_refl _)
            have hcur := hcur.grown gr2 hcur.size (fun j e => by cases e; exact hg7)
            clear o2 gr2 hb2
            refine hK.out _ _ (after_mk hcur) (fun hHeld => ?_)
            clear hK K
            try simp only [Act.put, List.setIfInBounds_toArray]
            refine wpAnyH_ready (rs := [14, 16]) (by kernel_rfl) (by simp) ?_
            refine AllReadyH.cons rfl (fun K hK => ?_) (AllReadyH.cons rfl (fun K hK => ?_) AllReadyH.nil)
            · rw [if_pos (by rfl)]
              refine wp_cpHd _ _ rfl W.heap.size X1.heap.size n3 c3 a3 h HN3.out (by rfl) (OX.own _ (List.mem_append_right [noRow, (rwD z1 n1 k1 d), (rwN z2 n2 k2 n)] (List.Mem.head _))) (by rfl) ((HRD.out _ hcur).2.2) HAC.out.2.2 hx3 hcur.size ?_
              intro z3 k3 X31 o2 gr2 hb2
              have OX := OX.laid (A := [noRow, (rwD z1 n1 k1 d), (rwN z2 n2 k2 n)]) (B := []) (r := (rwH0 X1.heap.size)) (r' := (rwH z3 n3 k3 h)) rfl gr2 o2 hb2 (Nat.le_refl _)
              have hcur := hcur.grown gr2 hcur.size (fun j e => by cases e; exact hg11)
              clear o2 gr2 hb2
              refine hK.out _ _ (after_mk hcur) (fun hHeld => ?_)
              clear hK K
              try simp only [Act.put]
              refine h_take (i := 15) (d := some 20) (v := ?vc19) (by rfl) (by kernel_rfl) (by kernel_rfl) (by kernel_rfl) (fun _ _ _ h => by obtain ⟨_, _, _, _, _, _, _, _, _, h0, _⟩ := h; cases h0) (by rfl) ?hyc19 hHeld ?restc19
              case hyc19 =>
                intro o ho
                simp only [List.getElem?_toArray, List.getElem?_cons_succ, List.getElem?_cons_zero, Option.some.injEq] at ho
                subst ho
                rintro _ ⟨nw, rfl⟩
                first | (go_simp; done) | (go_simp; with_reducible rfl)
              try simp only [Act.put]
              refine wpAnyH_ready (rs := [16]) (by kernel_rfl) (by simp) ?_
              refine AllReadyH.cons rfl (fun K hK => ?_) AllReadyH.nil
              go_simp
              have OX := OX.put (A := []) (B := [(rwD z1 n1 k1 d), (rwN z2 n2 k2 n), (rwH z3 n3 k3 h)]) (r := noRow) (r' := (rwB X31.heap.size)) rfl (one_new (w := X31) (.cells #[.int .i64 0, .int .i64 0, .slice none 0 0, .slice none 0 0, .slice none 0 0, .slice none 0 0] 38)) (box_row X31) (Nat.le_refl _) hcur.size
              have hbx : W.heap.size ≤ X31.heap.size := hcur.size
              have hcur := below_after_of hcur (one_new (w := X31) (.cells #[.int .i64 0, .int .i64 0, .slice none 0 0, .slice none 0 0, .slice none 0 0, .slice none 0 0] 38))
              refine hK.out _ _ (after_mk hcur) (fun hHeld => ?_)
              clear hK K
              try simp only [Act.put, List.setIfInBounds_toArray, List.set_cons_zero, List.set_cons_succ]
              generalize hY : World.alloc X31 (.cells #[.int .i64 0, .int .i64 0, .slice none 0 0, .slice none 0 0, .slice none 0 0, .slice none 0 0] 38) = X32 at *
              clear hY
              obtain ⟨e0, e1, e2, e3, e4, e5, f0, f1, f2, f3, f4, f5⟩ := box6_all OX
              refine wpAnyH_ready (rs := [17]) (by kernel_rfl) (by simp) ?_
              refine AllReadyH.cons rfl (fun K hK => ?_) AllReadyH.nil
              have OX := own_box6 OX (.int .i64 ph) (.int .i64 cu) (.slice z1 n1 k1) (.slice z2 n2 k2) (.slice z3 n3 k3) (.slice none 0 0)
              have hcur := below_box6 hcur hbx (.int .i64 ph) (.int .i64 cu) (.slice z1 n1 k1) (.slice z2 n2 k2) (.slice z3 n3 k3) (.slice none 0 0)
              go_simp
              refine hK.out _ _ (after_mk hcur) (fun hHeld => ?_)
              clear hK K
              try simp only [Act.put, List.setIfInBounds_toArray, List.set_cons_zero, List.set_cons_succ]
              refine wpAnyH_done (by kernel_rfl) ?_ _
              exact ⟨X31.heap.size, z1, k1, z2, k2, z3, k3, X28.heap.size, X1.heap.size, rfl, rfl, hcur, OX⟩
            · go_simp
              have OX := OX.put (A := []) (B := [(rwD z1 n1 k1 d), (rwN z2 n2 k2 n), (rwH0 X1.heap.size)]) (r := noRow) (r' := (rwB X30.heap.size)) rfl (one_new (w := X30) (.cells #[.int .i64 0, .int .i64 0, .slice none 0 0, .slice none 0 0, .slice none 0 0, .slice none 0 0] 38)) (box_row X30) (Nat.le_refl _) hcur.size
              have hbx : W.heap.size ≤ X30.heap.size := hcur.size
              have hcur := below_after_of hcur (one_new (w := X30) (.cells #[.int .i64 0, .int .i64 0, .slice none 0 0, .slice none 0 0, .slice none 0 0, .slice none 0 0] 38))
              refine hK.out _ _ (after_mk hcur) (fun hHeld => ?_)
              clear hK K
              try simp only [Act.put, List.setIfInBounds_toArray, List.set_cons_zero, List.set_cons_succ]
              generalize hY : World.alloc X30 (.cells #[.int .i64 0, .int .i64 0, .slice none 0 0, .slice none 0 0, .slice none 0 0, .slice none 0 0] 38) = X33 at *
              clear hY
              refine wpAnyH_ready (rs := [14]) (by kernel_rfl) (by simp) ?_
              refine AllReadyH.cons rfl (fun K hK => ?_) AllReadyH.nil
              rw [if_pos (by rfl)]
              refine wp_cpHd _ _ rfl W.heap.size X1.heap.size n3 c3 a3 h HN3.out (by rfl) (OX.own _ (List.mem_append_right [(rwB X30.heap.size), (rwD z1 n1 k1 d), (rwN z2 n2 k2 n)] (List.Mem.head _))) (by rfl) ((HRD.out _ hcur).2.2) HAC.out.2.2 hx3 hcur.size ?_
              intro z3 k3 X34 o2 gr2 hb2
              have OX := OX.laid (A := [(rwB X30.heap.size), (rwD z1 n1 k1 d), (rwN z2 n2 k2 n)]) (B := []) (r := (rwH0 X1.heap.size)) (r' := (rwH z3 n3 k3 h)) rfl gr2 o2 hb2 (Nat.le_refl _)
              have hcur := hcur.grown gr2 hcur.size (fun j e => by cases e; exact hg11)
              clear o2 gr2 hb2
              refine hK.out _ _ (after_mk hcur) (fun hHeld => ?_)
              clear hK K
              try simp only [Act.put, List.setIfInBounds_toArray]
              refine h_take (i := 15) (d := some 20) (v := ?vc20) (by rfl) (by kernel_rfl) (by kernel_rfl) (by kernel_rfl) (fun _ _ _ h => by obtain ⟨_, _, _, _, _, _, _, _, _, h0, _⟩ := h; cases h0) (by rfl) ?hyc20 hHeld ?restc20
              case hyc20 =>
                intro o ho
                simp only [List.getElem?_toArray, List.getElem?_cons_succ, List.getElem?_cons_zero, Option.some.injEq] at ho
                subst ho
                rintro _ ⟨nw, rfl⟩
                first | (go_simp; done) | (go_simp; with_reducible rfl)
              try simp only [Act.put]
              obtain ⟨e0, e1, e2, e3, e4, e5, f0, f1, f2, f3, f4, f5⟩ := box6_all OX
              refine wpAnyH_ready (rs := [17]) (by kernel_rfl) (by simp) ?_
              refine AllReadyH.cons rfl (fun K hK => ?_) AllReadyH.nil
              have OX := own_box6 OX (.int .i64 ph) (.int .i64 cu) (.slice z1 n1 k1) (.slice z2 n2 k2) (.slice z3 n3 k3) (.slice none 0 0)
              have hcur := below_box6 hcur hbx (.int .i64 ph) (.int .i64 cu) (.slice z1 n1 k1) (.slice z2 n2 k2) (.slice z3 n3 k3) (.slice none 0 0)
              go_simp
              refine hK.out _ _ (after_mk hcur) (fun hHeld => ?_)
              clear hK K
              try simp only [Act.put, List.setIfInBounds_toArray, List.set_cons_zero, List.set_cons_succ]
              refine wpAnyH_done (by kernel_rfl) ?_ _
              exact ⟨X30.heap.size, z1, k1, z2, k2, z3, k3, X28.heap.size, X1.heap.size, rfl, rfl, hcur, OX⟩
          · go_simp
            have OX := OX.put (A := []) (B := [(rwD z1 n1 k1 d), (rwN0 X28.heap.size), (rwH0 X1.heap.size)]) (r := noRow) (r' := (rwB X29.heap.size)) rfl (one_new (w := X29) (.cells #[.int .i64 0, .int .i64 0, .slice none 0 0, .slice none 0 0, .slice none 0 0, .slice none 0 0] 38)) (box_row X29) (Nat.le_refl _) hcur.size
            have hbx : W.heap.size ≤ X29.heap.size := hcur.size
            have hcur := below_after_of hcur (one_new (w := X29) (.cells #[.int .i64 0, .int .i64 0, .slice none 0 0, .slice none 0 0, .slice none 0 0, .slice none 0 0] 38))
            refine hK.out _ _ (after_mk hcur) (fun hHeld => ?_)
            clear hK K
            try simp only [Act.put, List.setIfInBounds_toArray, List.set_cons_zero, List.set_cons_succ]
            generalize hY : World.alloc X29 (.cells #[.int .i64 0, .int .i64 0, .slice none 0 0, .slice none 0 0, .slice none 0 0, .slice none 0 0] 38) = X35 at *
            clear hY
            refine wpAnyH_ready (rs := [10]) (by kernel_rfl) (by simp) ?_
            refine AllReadyH.cons rfl (fun K hK => ?_) AllReadyH.nil
            rw [if_pos (by rfl)]
            refine wp_cpSl _ _ rfl W.heap.size X28.heap.size n2 c2 a2 n HN2.out (by rfl) (OX.own _ (List.mem_append_right [(rwB X29.heap.size), (rwD z1 n1 k1 d)] (List.Mem.head _))) (by rfl) ((HRD.out _ hcur).2.1) HAC.out.2.1 hx2 hcur.size ?_
            intro z2 k2 X36 o2 gr2 hb2
            have OX := OX.laid (A := [(rwB X29.heap.size), (rwD z1 n1 k1 d)]) (B := [(rwH0 X1.heap.size)]) (r := (rwN0 X28.heap.size)) (r' := (rwN z2 n2 k2 n)) rfl gr2 o2 hb2 (Nat.le_refl _)
            have hcur := hcur.grown gr2 hcur.size (fun j e => by cases e; exact hg7)
            clear o2 gr2 hb2
            refine hK.out _ _ (after_mk hcur) (fun hHeld => ?_)
            clear hK K
            try simp only [Act.put, List.setIfInBounds_toArray]
            refine wpAnyH_ready (rs := [14]) (by kernel_rfl) (by simp) ?_
            refine AllReadyH.cons rfl (fun K hK => ?_) AllReadyH.nil
            rw [if_pos (by rfl)]
            refine wp_cpHd _ _ rfl W.heap.size X1.heap.size n3 c3 a3 h HN3.out (by rfl) (OX.own _ (List.mem_append_right [(rwB X29.heap.size), (rwD z1 n1 k1 d), (rwN z2 n2 k2 n)] (List.Mem.head _))) (by rfl) ((HRD.out _ hcur).2.2) HAC.out.2.2 hx3 hcur.size ?_
            intro z3 k3 X37 o2 gr2 hb2
            have OX := OX.laid (A := [(rwB X29.heap.size), (rwD z1 n1 k1 d), (rwN z2 n2 k2 n)]) (B := []) (r := (rwH0 X1.heap.size)) (r' := (rwH z3 n3 k3 h)) rfl gr2 o2 hb2 (Nat.le_refl _)
            have hcur := hcur.grown gr2 hcur.size (fun j e => by cases e; exact hg11)
            clear o2 gr2 hb2
            refine hK.out _ _ (after_mk hcur) (fun hHeld => ?_)
            clear hK K
            try simp only [Act.put]
            refine h_take (i := 15) (d := some 20) (v := ?vc21) (by rfl) (by kernel_rfl) (by kernel_rfl) (by kernel_rfl) (fun _ _ _ h => by obtain ⟨_, _, _, _, _, _, _, _, _, h0, _⟩ := h; cases h0) (by rfl) ?hyc21 hHeld ?restc21
            case hyc21 =>
              intro o ho
              simp only [List.getElem?_toArray, List.getElem?_cons_succ, List.getElem?_cons_zero, Option.some.injEq] at ho
              subst ho
              rintro _ ⟨nw, rfl⟩
              first | (go_simp; done) | (go_simp; with_reducible rfl)
            try simp only [Act.put]
            obtain ⟨e0, e1, e2, e3, e4, e5, f0, f1, f2, f3, f4, f5⟩ := box6_all OX
            refine wpAnyH_ready (rs := [17]) (by kernel_rfl) (by simp) ?_
            refine AllReadyH.cons rfl (fun K hK => ?_) AllReadyH.nil
            have OX := own_box6 OX (.int .i64 ph) (.int .i64 cu) (.slice z1 n1 k1) (.slice z2 n2 k2) (.slice z3 n3 k3) (.slice none 0 0)
            have hcur := below_box6 hcur hbx (.int .i64 ph) (.int .i64 cu) (.slice z1 n1 k1) (.slice z2 n2 k2) (.slice z3 n3 k3) (.slice none 0 0)
            go_simp
            refine hK.out _ _ (after_mk hcur) (fun hHeld => ?_)
            clear hK K
            try simp only [Act.put, List.setIfInBounds_toArray, List.set_cons_zero, List.set_cons_succ]
            refine wpAnyH_done (by kernel_rfl) ?_ _
            exact ⟨X29.heap.size, z1, k1, z2, k2, z3, k3, X28.heap.size, X1.heap.size, rfl, rfl, hcur, OX⟩
        · go_simp
          have OX := OX.put (A := []) (B := [(rwD z1 n1 k1 d), noRow, (rwH0 X1.heap.size)]) (r := noRow) (r' := (rwB X28.heap.size)) rfl (one_new (w := X28) (.cells #[.int .i64 0, .int .i64 0, .slice none 0 0, .slice none 0 0, .slice none 0 0, .slice none 0 0] 38)) (box_row X28) (Nat.le_refl _) hcur.size
          have hbx : W.heap.size ≤ X28.heap.size := hcur.size
          have hcur := below_after_of hcur (one_new (w := X28) (.cells #[.int .i64 0, .int .i64 0, .slice none 0 0, .slice none 0 0, .slice none 0 0, .slice none 0 0] 38))
          refine hK.out _ _ (after_mk hcur) (fun hHeld => ?_)
          clear hK K
          try simp only [Act.put, List.setIfInBounds_toArray, List.set_cons_zero, List.set_cons_succ]
          generalize hY : World.alloc X28 (.cells #[.int .i64 0, .int .i64 0, .slice none 0 0, .slice none 0 0, .slice none 0 0, .slice none 0 0] 38) = X38 at *
          clear hY
          refine wpAnyH_ready (rs := [7]) (by kernel_rfl) (by simp) ?_
          refine AllReadyH.cons rfl (fun K hK => ?_) AllReadyH.nil
          go_simp
          have OX := OX.put (A := [(rwB X28.heap.size), (rwD z1 n1 k1 d)]) (B := [(rwH0 X1.heap.size)]) (r := noRow) (r' := (rwN0 X38.heap.size)) rfl (one_new (w := X38) (.cells #[] 57)) (none_cpSl X38) (Nat.le_refl _) hcur.size
          have hg7 : W.heap.size ≤ X38.heap.size := hcur.size
          have hcur := below_after_of hcur (one_new (w := X38) (.cells #[] 57))
          refine hK.out _ _ (after_mk hcur) (fun hHeld => ?_)
          clear hK K
          try simp only [Act.put, List.setIfInBounds_toArray, List.set_cons_zero, List.set_cons_succ]
          generalize hY : World.alloc X38 (.cells #[] 57) = X39 at *
          clear hY
          refine wpAnyH_ready (rs := [10]) (by kernel_rfl) (by simp) ?_
          refine AllReadyH.cons rfl (fun K hK => ?_) AllReadyH.nil
          rw [if_pos (by rfl)]
          refine wp_cpSl _ _ rfl W.heap.size X38.heap.size n2 c2 a2 n HN2.out (by rfl) (OX.own _ (List.mem_append_right [(rwB X28.heap.size), (rwD z1 n1 k1 d)] (List.Mem.head _))) (by rfl) ((HRD.out _ hcur).2.1) HAC.out.2.1 hx2 hcur.size ?_
          intro z2 k2 X40 o2 gr2 hb2
          have OX := OX.laid (A := [(rwB X28.heap.size), (rwD z1 n1 k1 d)]) (B := [(rwH0 X1.heap.size)]) (r := (rwN0 X38.heap.size)) (r' := (rwN z2 n2 k2 n)) rfl gr2 o2 hb2 (Nat.le_refl _)
          have hcur := hcur.grown gr2 hcur.size (fun j e => by cases e; exact hg7)
          clear o2 gr2 hb2
          refine hK.out _ _ (after_mk hcur) (fun hHeld => ?_)
          clear hK K
          try simp only [Act.put, List.setIfInBounds_toArray]
          refine wpAnyH_ready (rs := [14]) (by kernel_rfl) (by simp) ?_
          refine AllReadyH.cons rfl (fun K hK => ?_) AllReadyH.nil
          rw [if_pos (by rfl)]
          refine wp_cpHd _ _ rfl W.heap.size X1.heap.size n3 c3 a3 h HN3.out (by rfl) (OX.own _ (List.mem_append_right [(rwB X28.heap.size), (rwD z1 n1 k1 d), (rwN z2 n2 k2 n)] (List.Mem.head _))) (by rfl) ((HRD.out _ hcur).2.2) HAC.out.2.2 hx3 hcur.size ?_
          intro z3 k3 X41 o2 gr2 hb2
          have OX := OX.laid (A := [(rwB X28.heap.size), (rwD z1 n1 k1 d), (rwN z2 n2 k2 n)]) (B := []) (r := (rwH0 X1.heap.size)) (r' := (rwH z3 n3 k3 h)) rfl gr2 o2 hb2 (Nat.le_refl _)
          have hcur := hcur.grown gr2 hcur.size (fun j e => by cases e; exact hg11)
          clear o2 gr2 hb2
          refine hK.out _ _ (after_mk hcur) (fun hHeld => ?_)
          clear hK K
          try simp only [Act.put]
          refine h_take (i := 15) (d := some 20) (v := ?vc22) (by rfl) (by kernel_rfl) (by kernel_rfl) (by kernel_rfl) (fun _ _ _ h => by obtain ⟨_, _, _, _, _, _, _, _, _, h0, _⟩ := h; cases h0) (by rfl) ?hyc22 hHeld ?restc22
          case hyc22 =>
            intro o ho
            simp only [List.getElem?_toArray, List.getElem?_cons_succ, List.getElem?_cons_zero, Option.some.injEq] at ho
            subst ho
            rintro _ ⟨nw, rfl⟩
            first | (go_simp; done) | (go_simp; with_reducible rfl)
          try simp only [Act.put]
          obtain ⟨e0, e1, e2, e3, e4, e5, f0, f1, f2, f3, f4, f5⟩ := box6_all OX
          refine wpAnyH_ready (rs := [17]) (by kernel_rfl) (by simp) ?_
          refine AllReadyH.cons rfl (fun K hK => ?_) AllReadyH.nil
          have OX := own_box6 OX (.int .i64 ph) (.int .i64 cu) (.slice z1 n1 k1) (.slice z2 n2 k2) (.slice z3 n3 k3) (.slice none 0 0)
          have hcur := below_box6 hcur hbx (.int .i64 ph) (.int .i64 cu) (.slice z1 n1 k1) (.slice z2 n2 k2) (.slice z3 n3 k3) (.slice none 0 0)
          go_simp
          refine hK.out _ _ (after_mk hcur) (fun hHeld => ?_)
          clear hK K
          try simp only [Act.put, List.setIfInBounds_toArray, List.set_cons_zero, List.set_cons_succ]
          refine wpAnyH_done (by kernel_rfl) ?_ _
          exact ⟨X28.heap.size, z1, k1, z2, k2, z3, k3, X38.heap.size, X1.heap.size, rfl, rfl, hcur, OX⟩
      · go_simp
        have OX := OX.put (A := []) (B := [(rwD z1 n1 k1 d), noRow, noRow]) (r := noRow) (r' := (rwB X1.heap.size)) rfl (one_new (w := X1) (.cells #[.int .i64 0, .int .i64 0, .slice none 0 0, .slice none 0 0, .slice none 0 0, .slice none 0 0] 38)) (box_row X1) (Nat.le_refl _) hcur.size
        have hbx : W.heap.size ≤ X1.heap.size := hcur.size
        have hcur := below_after_of hcur (one_new (w := X1) (.cells #[.int .i64 0, .int .i64 0, .slice none 0 0, .slice none 0 0, .slice none 0 0, .slice none 0 0] 38))
        refine hK.out _ _ (after_mk hcur) (fun hHeld => ?_)
        clear hK K
        try simp only [Act.put, List.setIfInBounds_toArray, List.set_cons_zero, List.set_cons_succ]
        generalize hY : World.alloc X1 (.cells #[.int .i64 0, .int .i64 0, .slice none 0 0, .slice none 0 0, .slice none 0 0, .slice none 0 0] 38) = X42 at *
        clear hY
        refine wpAnyH_ready (rs := [7, 11]) (by kernel_rfl) (by simp) ?_
        refine AllReadyH.cons rfl (fun K hK => ?_) (AllReadyH.cons rfl (fun K hK => ?_) AllReadyH.nil)
        · go_simp
          have OX := OX.put (A := [(rwB X1.heap.size), (rwD z1 n1 k1 d)]) (B := [noRow]) (r := noRow) (r' := (rwN0 X42.heap.size)) rfl (one_new (w := X42) (.cells #[] 57)) (none_cpSl X42) (Nat.le_refl _) hcur.size
          have hg7 : W.heap.size ≤ X42.heap.size := hcur.size
          have hcur := below_after_of hcur (one_new (w := X42) (.cells #[] 57))
          refine hK.out _ _ (after_mk hcur) (fun hHeld => ?_)
          clear hK K
          try simp only [Act.put, List.setIfInBounds_toArray, List.set_cons_zero, List.set_cons_succ]
          generalize hY : World.alloc X42 (.cells #[] 57) = X43 at *
          clear hY
          refine wpAnyH_ready (rs := [10, 11]) (by kernel_rfl) (by simp) ?_
          refine AllReadyH.cons rfl (fun K hK => ?_) (AllReadyH.cons rfl (fun K hK => ?_) AllReadyH.nil)
          · rw [if_pos (by rfl)]
            refine wp_cpSl _ _ rfl W.heap.size X42.heap.size n2 c2 a2 n HN2.out (by rfl) (OX.own _ (List.mem_append_right [(rwB X1.heap.size), (rwD z1 n1 k1 d)] (List.Mem.head _))) (by rfl) ((HRD.out _ hcur).2.1) HAC.out.2.1 hx2 hcur.size ?_
            intro z2 k2 X44 o2 gr2 hb2
            have OX := OX.laid (A := [(rwB X1.heap.size), (rwD z1 n1 k1 d)]) (B := [noRow]) (r := (rwN0 X42.heap.size)) (r' := (rwN z2 n2 k2 n)) rfl gr2 o2 hb2 (Nat.le_refl _)
            have hcur := hcur.grown gr2 hcur.size (fun j e => by cases e; exact hg7)
            clear o2 gr2 hb2
            refine hK.out _ _ (after_mk hcur) (fun hHeld => ?_)
            clear hK K
            try simp only [Act.put, List.setIfInBounds_toArray]
            refine wpAnyH_ready (rs := [11]) (by kernel_rfl) (by simp) ?_
            refine AllReadyH.cons rfl (fun K hK => ?_) AllReadyH.nil
            go_simp
            have OX := OX.put (A := [(rwB X1.heap.size), (rwD z1 n1 k1 d), (rwN z2 n2 k2 n)]) (B := []) (r := noRow) (r' := (rwH0 X44.heap.size)) rfl (one_new (w := X44) (.cells #[] 88)) (none_cpHd X44) (Nat.le_refl _) hcur.size
            have hg11 : W.heap.size ≤ X44.heap.size := hcur.size
            have hcur := below_after_of hcur (one_new (w := X44) (.cells #[] 88))
            refine hK.out _ _ (after_mk hcur) (fun hHeld => ?_)
            clear hK K
            try simp only [Act.put, List.setIfInBounds_toArray, List.set_cons_zero, List.set_cons_succ]
            generalize hY : World.alloc X44 (.cells #[] 88) = X45 at *
            clear hY
            refine wpAnyH_ready (rs := [14]) (by kernel_rfl) (by simp) ?_
            refine AllReadyH.cons rfl (fun K hK => ?_) AllReadyH.nil
            rw [if_pos (by rfl)]
            refine wp_cpHd _ _ rfl W.heap.size X44.heap.size n3 c3 a3 h HN3.out (by rfl) (OX.own _ (List.mem_append_right [(rwB X1.heap.size), (rwD z1 n1 k1 d), (rwN z2 n2 k2 n)] (List.Mem.head _))) (by rfl) ((HRD.out _ hcur).2.2) HAC.out.2.2 hx3 hcur.size ?_
            intro z3 k3 X46 o2 gr2 hb2
            have OX := OX.laid (A := [(rwB X1.heap.size), (rwD z1 n1 k1 d), (rwN z2 n2 k2 n)]) (B := []) (r := (rwH0 X44.heap.size)) (r' := (rwH z3 n3 k3 h)) rfl gr2 o2 hb2 (Nat.le_refl _)
            have hcur := hcur.grown gr2 hcur.size (fun j e => by cases e; exact hg11)
            clear o2 gr2 hb2
            refine hK.out _ _ (after_mk hcur) (fun hHeld => ?_)
            clear hK K
            try simp only [Act.put, List.setIfInBounds_toArray]
            refine h_take (i := 15) (d := some 20) (v := ?vc23) (by rfl) (by kernel_rfl) (by kernel_rfl) (by kernel_rfl) (fun _ _ _ h => by obtain ⟨_, _, _, _, _, _, _, _, _, h0, _⟩ := h; cases h0) (by rfl) ?hyc23 hHeld ?restc23
            case hyc23 =>
              intro o ho
              simp only [List.getElem?_toArray, List.getElem?_cons_succ, List.getElem?_cons_zero, Option.some.injEq] at ho
              subst ho
              rintro _ ⟨nw, rfl⟩
              first | (go_simp; done) | (go_simp; with_reducible rfl)
            try simp only [Act.put]
            obtain ⟨e0, e1, e2, e3, e4, e5, f0, f1, f2, f3, f4, f5⟩ := box6_all OX
            refine wpAnyH_ready (rs := [17]) (by kernel_rfl) (by simp) ?_
            refine AllReadyH.cons rfl (fun K hK => ?_) AllReadyH.nil
            have OX := own_box6 OX (.int .i64 ph) (.int .i64 cu) (.slice z1 n1 k1) (.slice z2 n2 k2) (.slice z3 n3 k3) (.slice none 0 0)
            have hcur := below_box6 hcur hbx (.int .i64 ph) (.int .i64 cu) (.slice z1 n1 k1) (.slice z2 n2 k2) (.slice z3 n3 k3) (.slice none 0 0)
            go_simp
            refine hK.out _ _ (after_mk hcur) (fun hHeld => ?_)
            clear hK K
            try simp only [Act.put, List.setIfInBounds_toArray, List.set_cons_zero, List.set_cons_succ]
            refine wpAnyH_done (by kernel_rfl) ?_ _
            exact ⟨X1.heap.size, z1, k1, z2, k2, z3, k3, X42.heap.size, X44.heap.size, rfl, rfl, hcur, OX⟩
          · go_simp
            have OX := OX.put (A := [(rwB X1.heap.size), (rwD z1 n1 k1 d), (rwN0 X42.heap.size)]) (B := []) (r := noRow) (r' := (rwH0 X43.heap.size)) rfl (one_new (w := X43) (.cells #[] 88)) (none_cpHd X43) (Nat.le_refl _) hcur.size
            have hg11 : W.heap.size ≤ X43.heap.size := hcur.size
            have hcur := below_after_of hcur (one_new (w := X43) (.cells #[] 88))
            refine hK.out _ _ (after_mk hcur) (fun hHeld => ?_)
            clear hK K
            try simp only [Act.put, List.setIfInBounds_toArray, List.set_cons_zero, List.set_cons_succ]
            generalize hY : World.alloc X43 (.cells #[] 88) = X47 at *
            clear hY
            refine wpAnyH_ready (rs := [10]) (by kernel_rfl) (by simp) ?_
            refine AllReadyH.cons rfl (fun K hK => ?_) AllReadyH.nil
            rw [if_pos (by rfl)]
            refine wp_cpSl _ _ rfl W.heap.size X42.heap.size n2 c2 a2 n HN2.out (by rfl) (OX.own _ (List.mem_append_right [(rwB X1.heap.size), (rwD z1 n1 k1 d)] (List.Mem.head _))) (by rfl) ((HRD.out _ hcur).2.1) HAC.out.2.1 hx2 hcur.size ?_
            intro z2 k2 X48 o2 gr2 hb2
            have OX := OX.laid (A := [(rwB X1.heap.size), (rwD z1 n1 k1 d)]) (B := [(rwH0 X43.heap.size)]) (r := (rwN0 X42.heap.size)) (r' := (rwN z2 n2 k2 n)) rfl gr2 o2 hb2 (Nat.le_refl _)
            have hcur := hcur.grown gr2 hcur.size (fun j e => by cases e; exact hg7)
            clear o2 gr2 hb2
            refine hK.out _ _ (after_mk hcur) (fun hHeld => ?_)
            clear hK K
            try simp only [Act.put, List.setIfInBounds_toArray]
            refine wpAnyH_ready (rs := [14]) (by kernel_rfl) (by simp) ?_
            refine AllReadyH.cons rfl (fun K hK => ?_) AllReadyH.nil
            rw [if_pos (by rfl)]
            refine wp_cpHd _ _ rfl W.heap.size X43.heap.size n3 c3 a3 h HN3.out (by rfl) (OX.own _ (List.mem_append_right [(rwB X1.heap.size), (rwD z1 n1 k1 d), (rwN z2 n2 k2 n)] (List.Mem.head _))) (by rfl) ((HRD.out _ hcur).2.2) HAC.out.2.2 hx3 hcur.size ?_
            intro z3 k3 X49 o2 gr2 hb2
            have OX := OX.laid (A := [(rwB X1.heap.size), (rwD z1 n1 k1 d), (rwN z2 n2 k2 n)]) (B := []) (r := (rwH0 X43.heap.size)) (r' := (rwH z3 n3 k3 h)) rfl gr2 o2 hb2 (Nat.le_refl _)
            have hcur := hcur.grown gr2 hcur.size (fun j e => by cases e; exact hg11)
            clear o2 gr2 hb2
            refine hK.out _ _ (after_mk hcur) (fun hHeld => ?_)
            clear hK K
            try simp only [Act.put]
            refine h_take (i := 15) (d := some 20) (v := ?vc24) (by rfl) (by kernel_rfl) (by kernel_rfl) (by kernel_rfl) (fun _ _ _ h => by obtain ⟨_, _, _, _, _, _, _, _, _, h0, _⟩ := h; cases h0) (by rfl) ?hyc24 hHeld ?restc24
            case hyc24 =>
              intro o ho
              simp only [List.getElem?_toArray, List.getElem?_cons_succ, List.getElem?_cons_zero, Option.some.injEq] at ho
              subst ho
              rintro _ ⟨nw, rfl⟩
              first | (go_simp; done) | (go_simp; with_reducible rfl)
            try simp only [Act.put]
            obtain ⟨e0, e1, e2, e3, e4, e5, f0, f1, f2, f3, f4, f5⟩ := box6_all OX
            refine wpAnyH_ready (rs := [17]) (by kernel_rfl) (by simp) ?_
            refine AllReadyH.cons rfl (fun K hK => ?_) AllReadyH.nil
            have OX := own_box6 OX (.int .i64 ph) (.int .i64 cu) (.slice z1 n1 k1) (.slice z2 n2 k2) (.slice z3 n3 k3) (.slice none 0 0)
            have hcur := below_box6 hcur hbx (.int .i64 ph) (.int .i64 cu) (.slice z1 n1 k1) (.slice z2 n2 k2) (.slice z3 n3 k3) (.slice none 0 0)
            go_simp
            refine hK.out _ _ (after_mk hcur) (fun hHeld => ?_)
            clear hK K
            try simp only [Act.put, List.setIfInBounds_toArray, List.set_cons_zero, List.set_cons_succ]
            refine wpAnyH_done (by kernel_rfl) ?_ _
            exact ⟨X1.heap.size, z1, k1, z2, k2, z3, k3, X42.heap.size, X43.heap.size, rfl, rfl, hcur, OX⟩
        · go_simp
          have OX := OX.put (A := [(rwB X1.heap.size), (rwD z1 n1 k1 d), noRow]) (B := []) (r := noRow) (r' := (rwH0 X42.heap.size)) rfl (one_new (w := X42) (.cells #[] 88)) (none_cpHd X42) (Nat.le_refl _) hcur.size
          have hg11 : W.heap.size ≤ X42.heap.size := hcur.size
          have hcur := below_after_of hcur (one_new (w := X42) (.cells #[] 88))
          refine hK.out _ _ (after_mk hcur) (fun hHeld => ?_)
          clear hK K
          try simp only [Act.put, List.setIfInBounds_toArray, List.set_cons_zero, List.set_cons_succ]
          generalize hY : World.alloc X42 (.cells #[] 88) = X50 at *
          clear hY
          refine wpAnyH_ready (rs := [7]) (by kernel_rfl) (by simp) ?_
          refine AllReadyH.cons rfl (fun K hK => ?_) AllReadyH.nil
          go_simp
          have OX := OX.put (A := [(rwB X1.heap.size), (rwD z1 n1 k1 d)]) (B := [(rwH0 X42.heap.size)]) (r := noRow) (r' := (rwN0 X50.heap.size)) rfl (one_new (w := X50) (.cells #[] 57)) (none_cpSl X50) (Nat.le_refl _) hcur.size
          have hg7 : W.heap.size ≤ X50.heap.size := hcur.size
          have hcur := below_after_of hcur (one_new (w := X50) (.cells #[] 57))
          refine hK.out _ _ (after_mk hcur) (fun hHeld => ?_)
          clear hK K
          try simp only [Act.put, List.setIfInBounds_toArray, List.set_cons_zero, List.set_cons_succ]
          generalize hY : World.alloc X50 (.cells #[] 57) = X51 at *
          clear hY
          refine wpAnyH_ready (rs := [10]) (by kernel_rfl) (by simp) ?_
          refine AllReadyH.cons rfl (fun K hK => ?_) AllReadyH.nil
          rw [if_pos (by rfl)]
          refine wp_cpSl _ _ rfl W.heap.size X50.heap.size n2 c2 a2 n HN2.out (by rfl) (OX.own _ (List.mem_append_right [(rwB X1.heap.size), (rwD z1 n1 k1 d)] (List.Mem.head _))) (by rfl) ((HRD.out _ hcur).2.1) HAC.out.2.1 hx2 hcur.size ?_
          intro z2 k2 X52 o2 gr2 hb2
          have OX := OX.laid (A := [(rwB X1.heap.size), (rwD z1 n1 k1 d)]) (B := [(rwH0 X42.heap.size)]) (r := (rwN0 X50.heap.size)) (r' := (rwN z2 n2 k2 n)) rfl gr2 o2 hb2 (Nat.le_refl _)
          have hcur := hcur.grown gr2 hcur.size (fun j e => by cases e; exact hg7)
          clear o2 gr2 hb2
          refine hK.out _ _ (after_mk hcur) (fun hHeld => ?_)
          clear hK K
          try simp only [Act.put, List.setIfInBounds_toArray]
          refine wpAnyH_ready (rs := [14]) (by kernel_rfl) (by simp) ?_
          refine AllReadyH.cons rfl (fun K hK => ?_) AllReadyH.nil
          rw [if_pos (by rfl)]
          refine wp_cpHd _ _ rfl W.heap.size X42.heap.size n3 c3 a3 h HN3.out (by rfl) (OX.own _ (List.mem_append_right [(rwB X1.heap.size), (rwD z1 n1 k1 d), (rwN z2 n2 k2 n)] (List.Mem.head _))) (by rfl) ((HRD.out _ hcur).2.2) HAC.out.2.2 hx3 hcur.size ?_
          intro z3 k3 X53 o2 gr2 hb2
          have OX := OX.laid (A := [(rwB X1.heap.size), (rwD z1 n1 k1 d), (rwN z2 n2 k2 n)]) (B := []) (r := (rwH0 X42.heap.size)) (r' := (rwH z3 n3 k3 h)) rfl gr2 o2 hb2 (Nat.le_refl _)
          have hcur := hcur.grown gr2 hcur.size (fun j e => by cases e; exact hg11)
          clear o2 gr2 hb2
          refine hK.out _ _ (after_mk hcur) (fun hHeld => ?_)
          clear hK K
          try simp only [Act.put]
          refine h_take (i := 15) (d := some 20) (v := ?vc25) (by rfl) (by kernel_rfl) (by kernel_rfl) (by kernel_rfl) (fun _ _ _ h => by obtain ⟨_, _, _, _, _, _, _, _, _, h0, _⟩ := h; cases h0) (by rfl) ?hyc25 hHeld ?restc25
          case hyc25 =>
            intro o ho
            simp only [List.getElem?_toArray, List.getElem?_cons_succ, List.getElem?_cons_zero, Option.some.injEq] at ho
            subst ho
            rintro _ ⟨nw, rfl⟩
            first | (go_simp; done) | (go_simp; with_reducible rfl)
          try simp only [Act.put]
          obtain ⟨e0, e1, e2, e3, e4, e5, f0, f1, f2, f3, f4, f5⟩ := box6_all OX
          refine wpAnyH_ready (rs := [17]) (by kernel_rfl) (by simp) ?_
          refine AllReadyH.cons rfl (fun K hK => ?_) AllReadyH.nil
          have OX := own_box6 OX (.int .i64 ph) (.int .i64 cu) (.slice z1 n1 k1) (.slice z2 n2 k2) (.slice z3 n3 k3) (.slice none 0 0)
          have hcur := below_box6 hcur hbx (.int .i64 ph) (.int .i64 cu) (.slice z1 n1 k1) (.slice z2 n2 k2) (.slice z3 n3 k3) (.slice none 0 0)
          go_simp
          refine hK.out _ _ (after_mk hcur) (fun hHeld => ?_)
          clear hK K
          try simp only [Act.put, List.setIfInBounds_toArray, List.set_cons_zero, List.set_cons_succ]
          refine wpAnyH_done (by kernel_rfl) ?_ _
          exact ⟨X1.heap.size, z1, k1, z2, k2, z3, k3, X50.heap.size, X42.heap.size, rfl, rfl, hcur, OX⟩
    · go_simp
      have OX := OX.put (A := [noRow, noRow]) (B := [noRow]) (r := noRow) (r' := (rwN0 X0.heap.size)) rfl (one_new (w := X0) (.cells #[] 57)) (none_cpSl X0) (Nat.le_refl _) hcur.size
      have hg7 : W.heap.size ≤ X0.heap.size := hcur.size
      have hcur := below_after_of hcur (one_new (w := X0) (.cells #[] 57))
      refine hK.out _ _ (after_mk hcur) (fun hHeld => ?_)
      clear hK K
      try simp only [Act.put, List.setIfInBounds_toArray, List.set_cons_zero, List.set_cons_succ]
      generalize hY : World.alloc X0 (.cells #[] 57) = X54 at *
      clear hY
      refine wpAnyH_ready (rs := [6, 11, 16]) (by kernel_rfl) (by simp) ?_
      refine AllReadyH.cons rfl (fun K hK => ?_) (AllReadyH.cons rfl (fun K hK => ?_) (AllReadyH.cons rfl (fun K hK => ?_) AllReadyH.nil))
      · go_simp
        refine (l9Copy_any a1 n1 c1 d X54 HN1.out ((HRD.out _ hcur).1) HAC.out.1 hx1).mono ?_
        rintro e X55 ⟨z1, k1, rfl, hb, o1⟩
        have OX := OX.put (A := [noRow]) (B := [(rwN0 X0.heap.size), noRow]) (r := noRow) (r' := (rwD z1 n1 k1 d)) rfl hb o1 (Nat.le_refl _) hcur.size
        have hcur := below_after_of hcur hb
        clear hb o1
        refine hK.out _ _ (after_mk hcur) (fun hHeld => ?_)
        clear hK K
        try simp only [Act.put, List.setIfInBounds_toArray, List.set_cons_zero, List.set_cons_succ]
        refine wpAnyH_ready (rs := [10, 11, 16]) (by kernel_rfl) (by simp) ?_
        refine AllReadyH.cons rfl (fun K hK => ?_) (AllReadyH.cons rfl (fun K hK => ?_) (AllReadyH.cons rfl (fun K hK => ?_) AllReadyH.nil))
        · rw [if_pos (by rfl)]
          refine wp_cpSl _ _ rfl W.heap.size X0.heap.size n2 c2 a2 n HN2.out (by rfl) (OX.own _ (List.mem_append_right [noRow, (rwD z1 n1 k1 d)] (List.Mem.head _))) (by rfl) ((HRD.out _ hcur).2.1) HAC.out.2.1 hx2 hcur.size ?_
          intro z2 k2 X56 o2 gr2 hb2
          have OX := OX.laid (A := [noRow, (rwD z1 n1 k1 d)]) (B := [noRow]) (r := (rwN0 X0.heap.size)) (r' := (rwN z2 n2 k2 n)) rfl gr2 o2 hb2 (Nat.le_refl _)
          have hcur := hcur.grown gr2 hcur.size (fun j e => by cases e; exact hg7)
          clear o2 gr2 hb2
          refine hK.out _ _ (after_mk hcur) (fun hHeld => ?_)
          clear hK K
          try simp only [Act.put, List.setIfInBounds_toArray]
          refine wpAnyH_ready (rs := [11, 16]) (by kernel_rfl) (by simp) ?_
          refine AllReadyH.cons rfl (fun K hK => ?_) (AllReadyH.cons rfl (fun K hK => ?_) AllReadyH.nil)
          · go_simp
            have OX := OX.put (A := [noRow, (rwD z1 n1 k1 d), (rwN z2 n2 k2 n)]) (B := []) (r := noRow) (r' := (rwH0 X56.heap.size)) rfl (one_new (w := X56) (.cells #[] 88)) (none_cpHd X56) (Nat.le_refl _) hcur.size
            have hg11 : W.heap.size ≤ X56.heap.size := hcur.size
            have hcur := below_after_of hcur (one_new (w := X56) (.cells #[] 88))
            refine hK.out _ _ (after_mk hcur) (fun hHeld => ?_)
            clear hK K
            try simp only [Act.put, List.setIfInBounds_toArray, List.set_cons_zero, List.set_cons_succ]
            generalize hY : World.alloc X56 (.cells #[] 88) = X57 at *
            clear hY
            refine wpAnyH_ready (rs := [14, 16]) (by kernel_rfl) (by simp) ?_
            refine AllReadyH.cons rfl (fun K hK => ?_) (AllReadyH.cons rfl (fun K hK => ?_) AllReadyH.nil)
            · rw [if_pos (by rfl)]
              refine wp_cpHd _ _ rfl W.heap.size X56.heap.size n3 c3 a3 h HN3.out (by rfl) (OX.own _ (List.mem_append_right [noRow, (rwD z1 n1 k1 d), (rwN z2 n2 k2 n)] (List.Mem.head _))) (by rfl) ((HRD.out _ hcur).2.2) HAC.out.2.2 hx3 hcur.size ?_
              intro z3 k3 X58 o2 gr2 hb2
              have OX := OX.laid (A := [noRow, (rwD z1 n1 k1 d), (rwN z2 n2 k2 n)]) (B := []) (r := (rwH0 X56.heap.size)) (r' := (rwH z3 n3 k3 h)) rfl gr2 o2 hb2 (Nat.le_refl _)
              have hcur := hcur.grown gr2 hcur.size (fun j e => by cases e; exact hg11)
              clear o2 gr2 hb2
              refine hK.out _ _ (after_mk hcur) (fun hHeld => ?_)
              clear hK K
              try simp only [Act.put, List.setIfInBounds_toArray]
              refine h_take (i := 15) (d := some 20) (v := ?vc26) (by rfl) (by kernel_rfl) (by kernel_rfl) (by kernel_rfl) (fun _ _ _ h => by obtain ⟨_, _, _, _, _, _, _, _, _, h0, _⟩ := h; cases h0) (by rfl) ?hyc26 hHeld ?restc26
              case hyc26 =>
                intro o ho
                simp only [List.getElem?_toArray, List.getElem?_cons_succ, List.getElem?_cons_zero, Option.some.injEq] at ho
                subst ho
                rintro _ ⟨nw, rfl⟩
                first | (go_simp; done) | (go_simp; with_reducible rfl)
              try simp only [Act.put]
              refine wpAnyH_ready (rs := [16]) (by kernel_rfl) (by simp) ?_
              refine AllReadyH.cons rfl (fun K hK => ?_) AllReadyH.nil
              go_simp
              have OX := OX.put (A := []) (B := [(rwD z1 n1 k1 d), (rwN z2 n2 k2 n), (rwH z3 n3 k3 h)]) (r := noRow) (r' := (rwB X58.heap.size)) rfl (one_new (w := X58) (.cells #[.int .i64 0, .int .i64 0, .slice none 0 0, .slice none 0 0, .slice none 0 0, .slice none 0 0] 38)) (box_row X58) (Nat.le_refl _) hcur.size
              have hbx : W.heap.size ≤ X58.heap.size := hcur.size
              have hcur := below_after_of hcur (one_new (w := X58) (.cells #[.int .i64 0, .int .i64 0, .slice none 0 0, .slice none 0 0, .slice none 0 0, .slice none 0 0] 38))
              refine hK.out _ _ (after_mk hcur) (fun hHeld => ?_)
              clear hK K
              try simp only [Act.put, List.setIfInBounds_toArray, List.set_cons_zero, List.set_cons_succ]
              generalize hY : World.alloc X58 (.cells #[.int .i64 0, .int .i64 0, .slice none 0 0, .slice none 0 0, .slice none 0 0, .slice none 0 0] 38) = X59 at *
              clear hY
              obtain ⟨e0, e1, e2, e3, e4, e5, f0, f1, f2, f3, f4, f5⟩ := box6_all OX
              refine wpAnyH_ready (rs := [17]) (by kernel_rfl) (by simp) ?_
              refine AllReadyH.cons rfl (fun K hK => ?_) AllReadyH.nil
              have OX := own_box6 OX (.int .i64 ph) (.int .i64 cu) (.slice z1 n1 k1) (.slice z2 n2 k2) (.slice z3 n3 k3) (.slice none 0 0)
              have hcur := below_box6 hcur hbx (.int .i64 ph) (.int .i64 cu) (.slice z1 n1 k1) (.slice z2 n2 k2) (.slice z3 n3 k3) (.slice none 0 0)
              go_simp
              refine hK.out _ _ (after_mk hcur) (fun hHeld => ?_)
              clear hK K
              try simp only [Act.put, List.setIfInBounds_toArray, List.set_cons_zero, List.set_cons_succ]
              refine wpAnyH_done (by kernel_rfl) ?_ _
              exact ⟨X58.heap.size, z1, k1, z2, k2, z3, k3, X0.heap.size, X56.heap.size, rfl, rfl, hcur, OX⟩
            · go_simp
              have OX := OX.put (A := []) (B := [(rwD z1 n1 k1 d), (rwN z2 n2 k2 n), (rwH0 X56.heap.size)]) (r := noRow) (r' := (rwB X57.heap.size)) rfl (one_new (w := X57) (.cells #[.int .i64 0, .int .i64 0, .slice none 0 0, .slice none 0 0, .slice none 0 0, .slice none 0 0] 38)) (box_row X57) (Nat.le_refl _) hcur.size
              have hbx : W.heap.size ≤ X57.heap.size := hcur.size
              have hcur := below_after_of hcur (one_new (w := X57) (.cells #[.int .i64 0, .int .i64 0, .slice none 0 0, .slice none 0 0, .slice none 0 0, .slice none 0 0] 38))
              refine hK.out _ _ (after_mk hcur) (fun hHeld => ?_)
              clear hK K
              try simp only [Act.put, List.setIfInBounds_toArray, List.set_cons_zero, List.set_cons_succ]
              generalize hY : World.alloc X57 (.cells #[.int .i64 0, .int .i64 0, .slice none 0 0, .slice none 0 0, .slice none 0 0, .slice none 0 0] 38) = X60 at *
              clear hY
              refine wpAnyH_ready (rs := [14]) (by kernel_rfl) (by simp) ?_
              refine AllReadyH.cons rfl (fun K hK => ?_) AllReadyH.nil
              rw [if_pos (by rfl)]
              refine wp_cpHd _ _ rfl W.heap.size X56.heap.size n3 c3 a3 h HN3.out (by rfl) (OX.own _ (List.mem_append_right [(rwB X57.heap.size), (rwD z1 n1 k1 d), (rwN z2 n2 k2 n)] (List.Mem.head _))) (by rfl) ((HRD.out _ hcur).2.2) HAC.out.2.2 hx3 hcur.size ?_
              intro z3 k3 X61 o2 gr2 hb2
              have OX := OX.laid (A := [(rwB X57.heap.size), (rwD z1 n1 k1 d), (rwN z2 n2 k2 n)]) (B := []) (r := (rwH0 X56.heap.size)) (r' := (rwH z3 n3 k3 h)) rfl gr2 o2 hb2 (Nat.le_refl _)
              have hcur := hcur.grown gr2 hcur.size (fun j e => by cases e; exact hg11)
              clear o2 gr2 hb2
              refine hK.out _ _ (after_mk hcur) (fun hHeld => ?_)
              clear hK K
              try simp only [Act.put, List.setIfInBounds_toArray]
              refine h_take (i := 15) (d := some 20) (v := ?vc27) (by rfl) (by kernel_rfl) (by kernel_rfl) (by kernel_rfl) (fun _ _ _ h => by obtain ⟨_, _, _, _, _, _, _, _, _, h0, _⟩ := h; cases h0) (by rfl) ?hyc27 hHeld ?restc27
              case hyc27 =>
                intro o ho
                simp only [List.getElem?_toArray, List.getElem?_cons_succ, List.getElem?_cons_zero, Option.some.injEq] at ho
                subst ho
                rintro _ ⟨nw, rfl⟩
                first | (go_simp; done) | (go_simp; with_reducible rfl)
              try simp only [Act.put]
              obtain ⟨e0, e1, e2, e3, e4, e5, f0, f1, f2, f3, f4, f5⟩ := box6_all OX
              refine wpAnyH_ready (rs := [17]) (by kernel_rfl) (by simp) ?_
              refine AllReadyH.cons rfl (fun K hK => ?_) AllReadyH.nil
              have OX := own_box6 OX (.int .i64 ph) (.int .i64 cu) (.slice z1 n1 k1) (.slice z2 n2 k2) (.slice z3 n3 k3) (.slice none 0 0)
              have hcur := below_box6 hcur hbx (.int .i64 ph) (.int .i64 cu) (.slice z1 n1 k1) (.slice z2 n2 k2) (.slice z3 n3 k3) (.slice none 0 0)
              go_simp
              refine hK.out _ _ (after_mk hcur) (fun hHeld => ?_)
              clear hK K
              try simp only [Act.put, List.setIfInBounds_toArray, List.set_cons_zero, List.set_cons_succ]
              refine wpAnyH_done (by kernel_rfl) ?_ _
              exact ⟨X57.heap.size, z1, k1, z2, k2, z3, k3, X0.heap.size, X56.heap.size, rfl, rfl, hcur, OX⟩
          · go_simp
            have OX := OX.put (A := []) (B := [(rwD z1 n1 k1 d), (rwN z2 n2 k2 n), noRow]) (r := noRow) (r' := (rwB X56.heap.size)) rfl (one_new (w := X56) (.cells #[.int .i64 0, .int .i64 0, .slice none 0 0, .slice none 0 0, .slice none 0 0, .slice none 0 0] 38)) (box_row X56) (Nat.le_refl _) hcur.size
            have hbx : W.heap.size ≤ X56.heap.size := hcur.size
            have hcur := below_after_of hcur (one_new (w := X56) (.cells #[.int .i64 0, .int .i64 0, .slice none 0 0, .slice none 0 0, .slice none 0 0, .slice none 0 0] 38))
            refine hK.out _ _ (after_mk hcur) (fun hHeld => ?_)
            clear hK K
            try simp only [Act.put, List.setIfInBounds_toArray, List.set_cons_zero, List.set_cons_succ]
            generalize hY : World.alloc X56 (.cells #[.int .i64 0, .int .i64 0, .slice none 0 0, .slice none 0 0, .slice none 0 0, .slice none 0 0] 38) = X62 at *
            clear hY
            refine wpAnyH_ready (rs := [11]) (by kernel_rfl) (by simp) ?_
            refine AllReadyH.cons rfl (fun K hK => ?_) AllReadyH.nil
            go_simp
            have OX := OX.put (A := [(rwB X56.heap.size), (rwD z1 n1 k1 d), (rwN z2 n2 k2 n)]) (B := []) (r := noRow) (r' := (rwH0 X62.heap.size)) rfl (one_new (w := X62) (.cells #[] 88)) (none_cpHd X62) (Nat.le_refl _) hcur.size
            have hg11 : W.heap.size ≤ X62.heap.size := hcur.size
            have hcur := below_after_of hcur (one_new (w := X62) (.cells #[] 88))
            refine hK.out _ _ (after_mk hcur) (fun hHeld => ?_)
            clear hK K
            try simp only [Act.put, List.setIfInBounds_toArray, List.set_cons_zero, List.set_cons_succ]
            generalize hY : World.alloc X62 (.cells #[] 88) = X63 at *
            clear hY
            refine wpAnyH_ready (rs := [14]) (by kernel_rfl) (by simp) ?_
            refine AllReadyH.cons rfl (fun K hK => ?_) AllReadyH.nil
            rw [if_pos (by rfl)]
            refine wp_cpHd _ _ rfl W.heap.size X62.heap.size n3 c3 a3 h HN3.out (by rfl) (OX.own _ (List.mem_append_right [(rwB X56.heap.size), (rwD z1 n1 k1 d), (rwN z2 n2 k2 n)] (List.Mem.head _))) (by rfl) ((HRD.out _ hcur).2.2) HAC.out.2.2 hx3 hcur.size ?_
            intro z3 k3 X64 o2 gr2 hb2
            have OX := OX.laid (A := [(rwB X56.heap.size), (rwD z1 n1 k1 d), (rwN z2 n2 k2 n)]) (B := []) (r := (rwH0 X62.heap.size)) (r' := (rwH z3 n3 k3 h)) rfl gr2 o2 hb2 (Nat.le_refl _)
            have hcur := hcur.grown gr2 hcur.size (fun j e => by cases e; exact hg11)
            clear o2 gr2 hb2
            refine hK.out _ _ (after_mk hcur) (fun hHeld => ?_)
            clear hK K
            try simp only [Act.put, List.setIfInBounds_toArray]
            refine h_take (i := 15) (d := some 20) (v := ?vc28) (by rfl) (by kernel_rfl) (by kernel_rfl) (by kernel_rfl) (fun _ _ _ h => by obtain ⟨_, _, _, _, _, _, _, _, _, h0, _⟩ := h; cases h0) (by rfl) ?hyc28 hHeld ?restc28
            case hyc28 =>
              intro o ho
              simp only [List.getElem?_toArray, List.getElem?_cons_succ, List.getElem?_cons_zero, Option.some.injEq] at ho
              subst ho
              rintro _ ⟨nw, rfl⟩
              first | (go_simp; done) | (go_simp; with_reducible rfl)
            try simp only [Act.put]
            obtain ⟨e0, e1, e2, e3, e4, e5, f0, f1, f2, f3, f4, f5⟩ := box6_all OX
            refine wpAnyH_ready (rs := [17]) (by kernel_rfl) (by simp) ?_
            refine AllReadyH.cons rfl (fun K hK => ?_) AllReadyH.nil
            have OX := own_box6 OX (.int .i64 ph) (.int .i64 cu) (.slice z1 n1 k1) (.slice z2 n2 k2) (.slice z3 n3 k3) (.slice none 0 0)
            have hcur := below_box6 hcur hbx (.int .i64 ph) (.int .i64 cu) (.slice z1 n1 k1) (.slice z2 n2 k2) (.slice z3 n3 k3) (.slice none 0 0)
            go_simp
            refine hK.out _ _ (after_mk hcur) (fun hHeld => ?_)
            clear hK K
            try simp only [Act.put, List.setIfInBounds_toArray, List.set_cons_zero, List.set_cons_succ]
            refine wpAnyH_done (by kernel_rfl) ?_ _
            exact ⟨X56.heap.size, z1, k1, z2, k2, z3, k3, X0.heap.size, X62.heap.size, rfl, rfl, hcur, OX⟩
        · go_simp
          have OX := OX.put (A := [noRow, (rwD z1 n1 k1 d), (rwN0 X0.heap.size)]) (B := []) (r := noRow) (r' := (rwH0 X55.heap.size)) rfl (one_new (w := X55) (.cells #[] 88)) (none_cpHd X55) (Nat.le_refl _) hcur.size
          have hg11 : W.heap.size ≤ X55.heap.size := hcur.size
          have hcur := below_after_of hcur (one_new (w := X55) (.cells #[] 88))
          refine hK.out _ _ (after_mk hcur) (fun hHeld => ?_)
          clear hK K
          try simp only [Act.put, List.setIfInBounds_toArray, List.set_cons_zero, List.set_cons_succ]
          generalize hY : World.alloc X55 (.cells #[] 88) = X65 at *
          clear hY
          refine wpAnyH_ready (rs := [10, 16]) (by kernel_rfl) (by simp) ?_
          refine AllReadyH.cons rfl (fun K hK => ?_) (AllReadyH.cons rfl (fun K hK => ?_) AllReadyH.nil)
          · rw [if_pos (by rfl)]
            refine wp_cpSl _ _ rfl W.heap.size X0.heap.size n2 c2 a2 n HN2.out (by rfl) (OX.own _ (List.mem_append_right [noRow, (rwD z1 n1 k1 d)] (List.Mem.head _))) (by rfl) ((HRD.out _ hcur).2.1) HAC.out.2.1 hx2 hcur.size ?_
            intro z2 k2 X66 o2 gr2 hb2
            have OX := OX.laid (A := [noRow, (rwD z1 n1 k1 d)]) (B := [(rwH0 X55.heap.size)]) (r := (rwN0 X0.heap.size)) (r' := (rwN z2 n2 k2 n)) rfl gr2 o2 hb2 (Nat.le_refl _)
            have hcur := hcur.grown gr2 hcur.size (fun j e => by cases e; exact hg7)
            clear o2 gr2 hb2
            refine hK.out _ _ (after_mk hcur) (fun hHeld => ?_)
            clear hK K
            try simp only [Act.put, List.setIfInBounds_toArray]
            refine wpAnyH_ready (rs := [14, 16]) (by kernel_rfl) (by simp) ?_
            refine AllReadyH.cons rfl (fun K hK => ?_) (AllReadyH.cons rfl (fun K hK => ?_) AllReadyH.nil)
            · rw [if_pos (by rfl)]
              refine wp_cpHd _ _ rfl W.heap.size X55.heap.size n3 c3 a3 h HN3.out (by rfl) (OX.own _ (List.mem_append_right [noRow, (rwD z1 n1 k1 d), (rwN z2 n2 k2 n)] (List.Mem.head _))) (by rfl) ((HRD.out _ hcur).2.2) HAC.out.2.2 hx3 hcur.size ?_
              intro z3 k3 X67 o2 gr2 hb2
              have OX := OX.laid (A := [noRow, (rwD z1 n1 k1 d), (rwN z2 n2 k2 n)]) (B := []) (r := (rwH0 X55.heap.size)) (r' := (rwH z3 n3 k3 h)) rfl gr2 o2 hb2 (Nat.le_refl _)
              have hcur := hcur.grown gr2 hcur.size (fun j e => by cases e; exact hg11)
              clear o2 gr2 hb2
              refine hK.out _ _ (after_mk hcur) (fun hHeld => ?_)
              clear hK K
              try simp only [Act.put]
              refine h_take (i := 15) (d := some 20) (v := ?vc29) (by rfl) (by kernel_rfl) (by kernel_rfl) (by kernel_rfl) (fun _ _ _ h => by obtain ⟨_, _, _, _, _, _, _, _, _, h0, _⟩ := h; cases h0) (by rfl) ?hyc29 hHeld ?restc29
              case hyc29 =>
                intro o ho
                simp only [List.getElem?_toArray, List.getElem?_cons_succ, List.getElem?_cons_zero, Option.some.injEq] at ho
                subst ho
                rintro _ ⟨nw, rfl⟩
                first | (go_simp; done) | (go_simp; with_reducible rfl)
              try simp only [Act.put]
              refine wpAnyH_ready (rs := [16]) (by kernel_rfl) (by simp) ?_
              refine AllReadyH.cons rfl (fun K hK => ?_) AllReadyH.nil
              go_simp
              have OX := OX.put (A := []) (B := [(rwD z1 n1 k1 d), (rwN z2 n2 k2 n), (rwH z3 n3 k3 h)]) (r := noRow) (r' := (rwB X67.heap.size)) rfl (one_new (w := X67) (.cells #[.int .i64 0, .int .i64 0, .slice none 0 0, .slice none 0 0, .slice none 0 0, .slice none 0 0] 38)) (box_row X67) (Nat.le_refl _) hcur.size
              have hbx : W.heap.size ≤ X67.heap.size := hcur.size
              have hcur := below_after_of hcur (one_new (w := X67) (.cells #[.int .i64 0, .int .i64 0, .slice none 0 0, .slice none 0 0, .slice none 0 0, .slice none 0 0] 38))
              refine hK.out _ _ (after_mk hcur) (fun hHeld => ?_)
              clear hK K
              try simp only [Act.put, List.setIfInBounds_toArray, List.set_cons_zero, List.set_cons_succ]
              generalize hY : World.alloc X67 (.cells #[.int .i64 0, .int .i64 0, .slice none 0 0, .slice none 0 0, .slice none 0 0, .slice none 0 0] 38) = X68 at *
              clear hY
              obtain ⟨e0, e1, e2, e3, e4, e5, f0, f1, f2, f3, f4, f5⟩ := box6_all OX
              refine wpAnyH_ready (rs := [17]) (by kernel_rfl) (by simp) ?_
              refine AllReadyH.cons rfl (fun K hK => ?_) AllReadyH.nil
              have OX := own_box6 OX (.int .i64 ph) (.int .i64 cu) (.slice z1 n1 k1) (.slice z2 n2 k2) (.slice z3 n3 k3) (.slice none 0 0)
              have hcur := below_box6 hcur hbx (.int .i64 ph) (.int .i64 cu) (.slice z1 n1 k1) (.slice z2 n2 k2) (.slice z3 n3 k3) (.slice none 0 0)
              go_simp
              refine hK.out _ _ (after_mk hcur) (fun hHeld => ?_)
              clear hK K
              try simp only [Act.put, List.setIfInBounds_toArray, List.set_cons_zero, List.set_cons_succ]
              refine wpAnyH_done (by kernel_rfl) ?_ _
              exact ⟨X67.heap.size, z1, k1, z2, k2, z3, k3, X0.heap.size, X55.heap.size, rfl, rfl, hcur, OX⟩
            · go_simp
              have OX := OX.put (A := []) (B := [(rwD z1 n1 k1 d), (rwN z2 n2 k2 n), (rwH0 X55.heap.size)]) (r := noRow) (r' := (rwB X66.heap.size)) rfl (one_new (w := X66) (.cells #[.int .i64 0, .int .i64 0, .slice none 0 0, .slice none 0 0, .slice none 0 0, .slice none 0 0] 38)) (box_row X66) (Nat.le_refl _) hcur.size
              have hbx : W.heap.size ≤ X66.heap.size := hcur.size
              have hcur := below_after_of hcur (one_new (w := X66) (.cells #[.int .i64 0, .int .i64 0, .slice none 0 0, .slice none 0 0, .slice none 0 0, .slice none 0 0] 38))
              refine hK.out _ _ (after_mk hcur) (fun hHeld => ?_)
              clear hK K
              try simp only [Act.put, List.setIfInBounds_toArray, List.set_cons_zero, List.set_cons_succ]
              generalize hY : World.alloc X66 (.cells #[.int .i64 0, .int .i64 0, .slice none 0 0, .slice none 0 0, .slice none 0 0, .slice none 0 0] 38) = X69 at *
              clear hY
              refine wpAnyH_ready (rs := [14]) (by kernel_rfl) (by simp) ?_
              refine AllReadyH.cons rfl (fun K hK => ?_) AllReadyH.nil
              rw [if_pos (by rfl)]
              refine wp_cpHd _ _ rfl W.heap.size X55.heap.size n3 c3 a3 h HN3.out (by rfl) (OX.own _ (List.mem_append_right [(rwB X66.heap.size), (rwD z1 n1 k1 d), (rwN z2 n2 k2 n)] (List.Mem.head _))) (by rfl) ((HRD.out _ hcur).2.2) HAC.out.2.2 hx3 hcur.size ?_
              intro z3 k3 X70 o2 gr2 hb2
              have OX := OX.laid (A := [(rwB X66.heap.size), (rwD z1 n1 k1 d), (rwN z2 n2 k2 n)]) (B := []) (r := (rwH0 X55.heap.size)) (r' := (rwH z3 n3 k3 h)) rfl gr2 o2 hb2 (Nat.le_refl _)
              have hcur := hcur.grown gr2 hcur.size (fun j e => by cases e; exact hg11)
              clear o2 gr2 hb2
              refine hK.out _ _ (after_mk hcur) (fun hHeld => ?_)
              clear hK K
              try simp only [Act.put, List.setIfInBounds_toArray]
              refine h_take (i := 15) (d := some 20) (v := ?vc30) (by rfl) (by kernel_rfl) (by kernel_rfl) (by kernel_rfl) (fun _ _ _ h => by obtain ⟨_, _, _, _, _, _, _, _, _, h0, _⟩ := h; cases h0) (by rfl) ?hyc30 hHeld ?restc30
              case hyc30 =>
                intro o ho
                simp only [List.getElem?_toArray, List.getElem?_cons_succ, List.getElem?_cons_zero, Option.some.injEq] at ho
                subst ho
                rintro _ ⟨nw, rfl⟩
                first | (go_simp; done) | (go_simp; with_reducible rfl)
              try simp only [Act.put]
              obtain ⟨e0, e1, e2, e3, e4, e5, f0, f1, f2, f3, f4, f5⟩ := box6_all OX
              refine wpAnyH_ready (rs := [17]) (by kernel_rfl) (by simp) ?_
              refine AllReadyH.cons rfl (fun K hK => ?_) AllReadyH.nil
              have OX := own_box6 OX (.int .i64 ph) (.int .i64 cu) (.slice z1 n1 k1) (.slice z2 n2 k2) (.slice z3 n3 k3) (.slice none 0 0)
              have hcur := below_box6 hcur hbx (.int .i64 ph) (.int .i64 cu) (.slice z1 n1 k1) (.slice z2 n2 k2) (.slice z3 n3 k3) (.slice none 0 0)
              go_simp
              refine hK.out _ _ (after_mk hcur) (fun hHeld => ?_)
              clear hK K
              try simp only [Act.put, List.setIfInBounds_toArray, List.set_cons_zero, List.set_cons_succ]
              refine wpAnyH_done (by kernel_rfl) ?_ _
              exact ⟨X66.heap.size, z1, k1, z2, k2, z3, k3, X0.heap.size, X55.heap.size, rfl, rfl, hcur, OX⟩
          · go_simp
            have OX := OX.put (A := []) (B := [(rwD z1 n1 k1 d), (rwN0 X0.heap.size), (rwH0 X55.heap.size)]) (r := noRow) (r' := (rwB X65.heap.size)) rfl (one_new (w := X65) (.cells #[.int .i64 0, .int .i64 0, .slice none 0 0, .slice none 0 0, .slice none 0 0, .slice none 0 0] 38)) (box_row X65) (Nat.le_refl _) hcur.size
            have hbx : W.heap.size ≤ X65.heap.size := hcur.size
            have hcur := below_after_of hcur (one_new (w := X65) (.cells #[.int .i64 0, .int .i64 0, .slice none 0 0, .slice none 0 0, .slice none 0 0, .slice none 0 0] 38))
            refine hK.out _ _ (after_mk hcur) (fun hHeld => ?_)
            clear hK K
            try simp only [Act.put, List.setIfInBounds_toArray, List.set_cons_zero, List.set_cons_succ]
            generalize hY : World.alloc X65 (.cells #[.int .i64 0, .int .i64 0, .slice none 0 0, .slice none 0 0, .slice none 0 0, .slice none 0 0] 38) = X71 at *
            clear hY
            refine wpAnyH_ready (rs := [10]) (by kernel_rfl) (by simp) ?_
            refine AllReadyH.cons rfl (fun K hK => ?_) AllReadyH.nil
            rw [if_pos (by rfl)]
            refine wp_cpSl _ _ rfl W.heap.size X0.heap.size n2 c2 a2 n HN2.out (by rfl) (OX.own _ (List.mem_append_right [(rwB X65.heap.size), (rwD z1 n1 k1 d)] (List.Mem.head _))) (by rfl) ((HRD.out _ hcur).2.1) HAC.out.2.1 hx2 hcur.size ?_
            intro z2 k2 X72 o2 gr2 hb2
            have OX := OX.laid (A := [(rwB X65.heap.size), (rwD z1 n1 k1 d)]) (B := [(rwH0 X55.heap.size)]) (r := (rwN0 X0.heap.size)) (r' := (rwN z2 n2 k2 n)) rfl gr2 o2 hb2 (Nat.le_refl _)
            have hcur := hcur.grown gr2 hcur.size (fun j e => by cases e; exact hg7)
            clear o2 gr2 hb2
            refine hK.out _ _ (after_mk hcur) (fun hHeld => ?_)
            clear hK K
            try simp only [Act.put, List.setIfInBounds_toArray]
            refine wpAnyH_ready (rs := [14]) (by kernel_rfl) (by simp) ?_
            refine AllReadyH.cons rfl (fun K hK => ?_) AllReadyH.nil
            rw [if_pos (by rfl)]
            refine wp_cpHd _ _ rfl W.heap.size X55.heap.size n3 c3 a3 h HN3.out (by rfl) (OX.own _ (List.mem_append_right [(rwB X65.heap.size), (rwD z1 n1 k1 d), (rwN z2 n2 k2 n)] (List.Mem.head _))) (by rfl) ((HRD.out _ hcur).2.2) HAC.out.2.2 hx3 hcur.size ?_
            intro z3 k3 X73 o2 gr2 hb2
            have OX := OX.laid (A := [(rwB X65.heap.size), (rwD z1 n1 k1 d), (rwN z2 n2 k2 n)]) (B := []) (r := (rwH0 X55.heap.size)) (r' := (rwH z3 n3 k3 h)) rfl gr2 o2 hb2 (Nat.le_refl _)
            have hcur := hcur.grown gr2 hcur.size (fun j e => by cases e; exact hg11)
            clear o2 gr2 hb2
            refine hK.out _ _ (after_mk hcur) (fun hHeld => ?_)
            clear hK K
            try simp only [Act.put]
            refine h_take (i := 15) (d := some 20) (v := ?vc31) (by rfl) (by kernel_rfl) (by kernel_rfl) (by kernel_rfl) (fun _ _ _ h => by obtain ⟨_, _, _, _, _, _, _, _, _, h0, _⟩ := h; cases h0) (by rfl) ?hyc31 hHeld ?restc31
            case hyc31 =>
              intro o ho
              simp only [List.getElem?_toArray, List.getElem?_cons_succ, List.getElem?_cons_zero, Option.some.injEq] at ho
              subst ho
              rintro _ ⟨nw, rfl⟩
              first | (go_simp; done) | (go_simp; with_reducible rfl)
            try simp only [Act.put]
            obtain ⟨e0, e1, e2, e3, e4, e5, f0, f1, f2, f3, f4, f5⟩ := box6_all OX
            refine wpAnyH_ready (rs := [17]) (by kernel_rfl) (by simp) ?_
            refine AllReadyH.cons rfl (fun K hK => ?_) AllReadyH.nil
            have OX := own_box6 OX (.int .i64 ph) (.int .i64 cu) (.slice z1 n1 k1) (.slice z2 n2 k2) (.slice z3 n3 k3) (.slice none 0 0)
            have hcur := below_box6 hcur hbx (.int .i64 ph) (.int .i64 cu) (.slice z1 n1 k1) (.slice z2 n2 k2) (.slice z3 n3 k3) (.slice none 0 0)
            go_simp
            refine hK.out _ _ (after_mk hcur) (fun hHeld => ?_)
            clear hK K
            try simp only [Act.put, List.setIfInBounds_toArray, List.set_cons_zero, List.set_cons_succ]
            refine wpAnyH_done (by kernel_rfl) ?_ _
            exact ⟨X65.heap.size, z1, k1, z2, k2, z3, k3, X0.heap.size, X55.heap.size, rfl, rfl, hcur, OX⟩
        · go_simp
          have OX := OX.put (A := []) (B := [(rwD z1 n1 k1 d), (rwN0 X0.heap.size), noRow]) (r := noRow) (r' := (rwB X55.heap.size)) rfl (one_new (w := X55) (.cells #[.int .i64 0, .int .i64 0, .slice none 0 0, .slice none 0 0, .slice none 0 0, .slice none 0 0] 38)) (box_row X55) (Nat.le_refl _) hcur.size
          have hbx : W.heap.size ≤ X55.heap.size := hcur.size
          have hcur := below_after_of hcur (one_new (w := X55) (.cells #[.int .i64 0, .int .i64 0, .slice none 0 0, .slice none 0 0, .slice none 0 0, .slice none 0 0] 38))
          refine hK.out _ _ (after_mk hcur) (fun hHeld => ?_)
          clear hK K
          try simp only [Act.put, List.setIfInBounds_toArray, List.set_cons_zero, List.set_cons_succ]
          generalize hY : World.alloc X55 (.cells #[.int .i64 0, .int .i64 0, .slice none 0 0, .slice none 0 0, .slice none 0 0, .slice none 0 0] 38) = X74 at *
          clear hY
          refine wpAnyH_ready (rs := [10, 11]) (by kernel_rfl) (by simp) ?_
          refine AllReadyH.cons rfl (fun K hK => ?_) (AllReadyH.cons rfl (fun K hK => ?_) AllReadyH.nil)
          · rw [if_pos (by rfl)]
            refine wp_cpSl _ _ rfl W.heap.size X0.heap.size n2 c2 a2 n HN2.out (by rfl) (OX.own _ (List.mem_append_right [(rwB X55.heap.size), (rwD z1 n1 k1 d)] (List.Mem.head _))) (by rfl) ((HRD.out _ hcur).2.1) HAC.out.2.1 hx2 hcur.size ?_
            intro z2 k2 X75 o2 gr2 hb2
            have OX := OX.laid (A := [(rwB X55.heap.size), (rwD z1 n1 k1 d)]) (B := [noRow]) (r := (rwN0 X0.heap.size)) (r' := (rwN z2 n2 k2 n)) rfl gr2 o2 hb2 (Nat.le_refl _)
            have hcur := hcur.grown gr2 hcur.size (fun j e => by cases e; exact hg7)
            clear o2 gr2 hb2
            refine hK.out _ _ (after_mk hcur) (fun hHeld => ?_)
            clear hK K
            try simp only [Act.put, List.setIfInBounds_toArray]
            refine wpAnyH_ready (rs := [11]) (by kernel_rfl) (by simp) ?_
            refine AllReadyH.cons rfl (fun K hK => ?_) AllReadyH.nil
            go_simp
            have OX := OX.put (A := [(rwB X55.heap.size), (rwD z1 n1 k1 d), (rwN z2 n2 k2 n)]) (B := []) (r := noRow) (r' := (rwH0 X75.heap.size)) rfl (one_new (w := X75) (.cells #[] 88)) (none_cpHd X75) (Nat.le_refl _) hcur.size
            have hg11 : W.heap.size ≤ X75.heap.size := hcur.size
            have hcur := below_after_of hcur (one_new (w := X75) (.cells #[] 88))
            refine hK.out _ _ (after_mk hcur) (fun hHeld => ?_)
            clear hK K
            try simp only [Act.put, List.setIfInBounds_toArray, List.set_cons_zero, List.set_cons_succ]
            generalize hY : World.alloc X75 (.cells #[] 88) = X76 at *
            clear hY
            refine wpAnyH_ready (rs := [14]) (by kernel_rfl) (by simp) ?_
            refine AllReadyH.cons rfl (fun K hK => ?_) AllReadyH.nil
            rw [if_pos (by rfl)]
            refine wp_cpHd _ _ rfl W.heap.size X75.heap.size n3 c3 a3 h HN3.out (by rfl) (OX.own _ (List.mem_append_right [(rwB X55.heap.size), (rwD z1 n1 k1 d), (rwN z2 n2 k2 n)] (List.Mem.head _))) (by rfl) ((HRD.out _ hcur).2.2) HAC.out.2.2 hx3 hcur.size ?_
            intro z3 k3 X77 o2 gr2 hb2
            have OX := OX.laid (A := [(rwB X55.heap.size), (rwD z1 n1 k1 d), (rwN z2 n2 k2 n)]) (B := []) (r := (rwH0 X75.heap.size)) (r' := (rwH z3 n3 k3 h)) rfl gr2 o2 hb2 (Nat.le_refl _)
            have hcur := hcur.grown gr2 hcur.size (fun j e => by cases e; exact hg11)
            clear o2 gr2 hb2
            refine hK.out _ _ (after_mk hcur) (fun hHeld => ?_)
            clear hK K
            try simp only [Act.put, List.setIfInBounds_toArray]
            refine h_take (i := 15) (d := some 20) (v := ?vc32) (by rfl) (by kernel_rfl) (by kernel_rfl) (by kernel_rfl) (fun _ _ _ h => by obtain ⟨_, _, _, _, _, _, _, _, _, h0, _⟩ := h; cases h0) (by rfl) ?hyc32 hHeld ?restc32
            case hyc32 =>
              intro o ho
              simp only [List.getElem?_toArray, List.getElem?_cons_succ, List.getElem?_cons_zero, Option.some.injEq] at ho
              subst ho
              rintro _ ⟨nw, rfl⟩
              first | (go_simp; done) | (go_simp; with_reducible rfl)
            try simp only [Act.put]
            obtain ⟨e0, e1, e2, e3, e4, e5, f0, f1, f2, f3, f4, f5⟩ := box6_all OX
            refine wpAnyH_ready (rs := [17]) (by kernel_rfl) (by simp) ?_
            refine AllReadyH.cons rfl (fun K hK => ?_) AllReadyH.nil
            have OX := own_box6 OX (.int .i64 ph) (.int .i64 cu) (.slice z1 n1 k1) (.slice z2 n2 k2) (.slice z3 n3 k3) (.slice none 0 0)
            have hcur := below_box6 hcur hbx (.int .i64 ph) (.int .i64 cu) (.slice z1 n1 k1) (.slice z2 n2 k2) (.slice z3 n3 k3) (.slice none 0 0)
            go_simp
            refine hK.out _ _ (after_mk hcur) (fun hHeld => ?_)
            clear hK K
            try simp only [Act.put, List.setIfInBounds_toArray, List.set_cons_zero, List.set_cons_succ]
            refine wpAnyH_done (by kernel_rfl) ?_ _
            exact ⟨X55.heap.size, z1, k1, z2, k2, z3, k3, X0.heap.size, X75.heap.size, rfl, rfl, hcur, OX⟩
          · go_simp
            have OX := OX.put (A := [(rwB X55.heap.size), (rwD z1 n1 k1 d), (rwN0 X0.heap.size)]) (B := []) (r := noRow) (r' := (rwH0 X74.heap.size)) rfl (one_new (w := X74) (.cells #[] 88)) (none_cpHd X74) (Nat.le_refl _) hcur.size
            have hg11 : W.heap.size ≤ X74.heap.size := hcur.size
            have hcur := below_after_of hcur (one_new (w := X74) (.cells #[] 88))
            refine hK.out _ _ (after_mk hcur) (fun hHeld => ?_)
            clear hK K
            try simp only [Act.put, List.setIfInBounds_toArray, List.set_cons_zero, List.set_cons_succ]
            generalize hY : World.alloc X74 (.cells #[] 88) = X78 at *
            clear hY
            refine wpAnyH_ready (rs := [10]) (by kernel_rfl) (by simp) ?_
            refine AllReadyH.cons rfl (fun K hK => ?_) AllReadyH.nil
            rw [if_pos (by rfl)]
            refine wp_cpSl _ _ rfl W.heap.size X0.heap.size n2 c2 a2 n HN2.out (by rfl) (OX.own _ (List.mem_append_right [(rwB X55.heap.size), (rwD z1 n1 k1 d)] (List.Mem.head _))) (by rfl) ((HRD.out _ hcur).2.1) HAC.out.2.1 hx2 hcur.size ?_
            intro z2 k2 X79 o2 gr2 hb2
            have OX := OX.laid (A := [(rwB X55.heap.size), (rwD z1 n1 k1 d)]) (B := [(rwH0 X74.heap.size)]) (r := (rwN0 X0.heap.size)) (r' := (rwN z2 n2 k2 n)) rfl gr2 o2 hb2 (Nat.le_refl _)
            have hcur := hcur.grown gr2 hcur.size (fun j e => by cases e; exact hg7)
            clear o2 gr2 hb2
            refine hK.out _ _ (after_mk hcur) (fun hHeld => ?_)
            clear hK K
            try simp only [Act.put, List.setIfInBounds_toArray]
            refine wpAnyH_ready (rs := [14]) (by kernel_rfl) (by simp) ?_
            refine AllReadyH.cons rfl (fun K hK => ?_) AllReadyH.nil
            rw [if_pos (by rfl)]
            refine wp_cpHd _ _ rfl W.heap.size X74.heap.size n3 c3 a3 h HN3.out (by rfl) (OX.own _ (List.mem_append_right [(rwB X55.heap.size), (rwD z1 n1 k1 d), (rwN z2 n2 k2 n)] (List.Mem.head _))) (by rfl) ((HRD.out _ hcur).2.2) HAC.out.2.2 hx3 hcur.size ?_
            intro z3 k3 X80 o2 gr2 hb2
            have OX := OX.laid (A := [(rwB X55.heap.size), (rwD z1 n1 k1 d), (rwN z2 n2 k2 n)]) (B := []) (r := (rwH0 X74.heap.size)) (r' := (rwH z3 n3 k3 h)) rfl gr2 o2 hb2 (Nat.le_refl _)
            have hcur := hcur.grown gr2 hcur.size (fun j e => by cases e; exact hg11)
            clear o2 gr2 hb2
            refine hK.out _ _ (after_mk hcur) (fun hHeld => ?_)
            clear hK K
            try simp only [Act.put]
            refine h_take (i := 15) (d := some 20) (v := ?vc33) (by rfl) (by kernel_rfl) (by kernel_rfl) (by kernel_rfl) (fun _ _ _ h => by obtain ⟨_, _, _, _, _, _, _, _, _, h0, _⟩ := h; cases h0) (by rfl) ?hyc33 hHeld ?restc33
            case hyc33 =>
              intro o ho
              simp only [List.getElem?_toArray, List.getElem?_cons_succ, List.getElem?_cons_zero, Option.some.injEq] at ho
              subst ho
              rintro _ ⟨nw, rfl⟩
              first | (go_simp; done) | (go_simp; with_reducible rfl)
            try simp only [Act.put]
            obtain ⟨e0, e1, e2, e3, e4, e5, f0, f1, f2, f3, f4, f5⟩ := box6_all OX
            refine wpAnyH_ready (rs := [17]) (by kernel_rfl) (by simp) ?_
            refine AllReadyH.cons rfl (fun K hK => ?_) AllReadyH.nil
            have OX := own_box6 OX (.int .i64 ph) (.int .i64 cu) (.slice z1 n1 k1) (.slice z2 n2 k2) (.slice z3 n3 k3) (.slice none 0 0)
            have hcur := below_box6 hcur hbx (.int .i64 ph) (.int .i64 cu) (.slice z1 n1 k1) (.slice z2 n2 k2) (.slice z3 n3 k3) (.slice none 0 0)
            go_simp
            refine hK.out _ _ (after_mk hcur) (fun hHeld => ?_)
            clear hK K
            try simp only [Act.put, List.setIfInBounds_toArray, List.set_cons_zero, List.set_cons_succ]
            refine wpAnyH_done (by kernel_rfl) ?_ _
            exact ⟨X55.heap.size, z1, k1, z2, k2, z3, k3, X0.heap.size, X74.heap.size, rfl, rfl, hcur, OX⟩
      · go_simp
        have OX := OX.put (A := [noRow, noRow, (rwN0 X0.heap.size)]) (B := []) (r := noRow) (r' := (rwH0 X54.heap.size)) rfl (one_new (w := X54) (.cells #[] 88)) (none_cpHd X54) (Nat.le_refl _) hcur.size
        have hg11 : W.heap.size ≤ X54.heap.size := hcur.size
        have hcur := below_after_of hcur (one_new (w := X54) (.cells #[] 88))
        refine hK.out _ _ (after_mk hcur) (fun hHeld => ?_)
        clear hK K
        try simp only [Act.put, List.setIfInBounds_toArray, List.set_cons_zero, List.set_cons_succ]
        generalize hY : World.alloc X54 (.cells #[] 88) = X81 at *
        clear hY
        refine wpAnyH_ready (rs := [6, 16]) (by kernel_rfl) (by simp) ?_
        refine AllReadyH.cons rfl (fun K hK => ?_) (AllReadyH.cons rfl (fun K hK => ?_) AllReadyH.nil)
        · go_simp
          refine (l9Copy_any a1 n1 c1 d X81 HN1.out ((HRD.out _ hcur).1) HAC.out.1 hx1).mono ?_
          rintro e X82 ⟨z1, k1, rfl, hb, o1⟩
          have OX := OX.put (A := [noRow]) (B := [(rwN0 X0.heap.size), (rwH0 X54.heap.size)]) (r := noRow) (r' := (rwD z1 n1 k1 d)) rfl hb o1 (Nat.le_refl _) hcur.size
          have hcur := below_after_of hcur hb
          clear hb o1
          refine hK.out _ _ (after_mk hcur) (fun hHeld => ?_)
          clear hK K
          try simp only [Act.put, List.setIfInBounds_toArray, List.set_cons_zero, List.set_cons_succ]
          refine wpAnyH_ready (rs := [10, 16]) (by kernel_rfl) (by simp) ?_
          refine AllReadyH.cons rfl (fun K hK => ?_) (AllReadyH.cons rfl (fun K hK => ?_) AllReadyH.nil)
          · rw [if_pos (by rfl)]
            refine wp_cpSl _ _ rfl W.heap.size X0.heap.size n2 c2 a2 n HN2.out (by rfl) (OX.own _ (List.mem_append_right [noRow, (rwD z1 n1 k1 d)] (List.Mem.head _))) (by rfl) ((HRD.out _ hcur).2.1) HAC.out.2.1 hx2 hcur.size ?_
            intro z2 k2 X83 o2 gr2 hb2
            have OX := OX.laid (A := [noRow, (rwD z1 n1 k1 d)]) (B := [(rwH0 X54.heap.size)]) (r := (rwN0 X0.heap.size)) (r' := (rwN z2 n2 k2 n)) rfl gr2 o2 hb2 (Nat.le_refl _)
            have hcur := hcur.grown gr2 hcur.size (fun j e => by cases e; exact hg7)
            clear o2 gr2 hb2
            refine hK.out _ _ (after_mk hcur) (fun hHeld => ?_)
            clear hK K
            try simp only [Act.put, List.setIfInBounds_toArray]
            refine wpAnyH_ready (rs := [14, 16]) (by kernel_rfl) (by simp) ?_
            refine AllReadyH.cons rfl (fun K hK => ?_) (AllReadyH.cons rfl (fun K hK => ?_) AllReadyH.nil)
            · rw [if_pos (by rfl)]
              refine wp_cpHd _ _ rfl W.heap.size X54.heap.size n3 c3 a3 h HN3.out (by rfl) (OX.own _ (List.mem_append_right [noRow, (rwD z1 n1 k1 d), (rwN z2 n2 k2 n)] (List.Mem.head _))) (by rfl) ((HRD.out _ hcur).2.2) HAC.out.2.2 hx3 hcur.size ?_
              intro z3 k3 X84 o2 gr2 hb2
              have OX := OX.laid (A := [noRow, (rwD z1 n1 k1 d), (rwN z2 n2 k2 n)]) (B := []) (r := (rwH0 X54.heap.size)) (r' := (rwH z3 n3 k3 h)) rfl gr2 o2 hb2 (Nat.le_refl _)
              have hcur := hcur.grown gr2 hcur.size (fun j e => by cases e; exact hg11)
              clear o2 gr2 hb2
              refine hK.out _ _ (after_mk hcur) (fun hHeld => ?_)
              clear hK K
              try simp only [Act.put]
              refine h_take (i := 15) (d := some 20) (v := ?vc34) (by rfl) (by kernel_rfl) (by kernel_rfl) (by kernel_rfl) (fun _ _ _ h => by obtain ⟨_, _, _, _, _, _, _, _, _, h0, _⟩ := h; cases h0) (by rfl) ?hyc34 hHeld ?restc34
              case hyc34 =>
                intro o ho
                simp only [List.getElem?_toArray, List.getElem?_cons_succ, List.getElem?_cons_zero, Option.some.injEq] at ho
                subst ho
                rintro _ ⟨nw, rfl⟩
                first | (go_simp; done) | (go_simp; with_reducible rfl)
              try simp only [Act.put]
              refine wpAnyH_ready (rs := [16]) (by kernel_rfl) (by simp) ?_
              refine AllReadyH.cons rfl (fun K hK => ?_) AllReadyH.nil
              go_simp
              have OX := OX.put (A := []) (B := [(rwD z1 n1 k1 d), (rwN z2 n2 k2 n), (rwH z3 n3 k3 h)]) (r := noRow) (r' := (rwB X84.heap.size)) rfl (one_new (w := X84) (.cells #[.int .i64 0, .int .i64 0, .slice none 0 0, .slice none 0 0, .slice none 0 0, .slice none 0 0] 38)) (box_row X84) (Nat.le_refl _) hcur.size
              have hbx : W.heap.size ≤ X84.heap.size := hcur.size
              have hcur := below_after_of hcur (one_new (w := X84) (.cells #[.int .i64 0, .int .i64 0, .slice none 0 0, .slice none 0 0, .slice none 0 0, .slice none 0 0] 38))
              refine hK.out _ _ (after_mk hcur) (fun hHeld => ?_)
              clear hK K
              try simp only [Act.put, List.setIfInBounds_toArray, List.set_cons_zero, List.set_cons_succ]
              generalize hY : World.alloc X84 (.cells #[.int .i64 0, .int .i64 0, .slice none 0 0, .slice none 0 0, .slice none 0 0, .slice none 0 0] 38) = X85 at *
              clear hY
              obtain ⟨e0, e1, e2, e3, e4, e5, f0, f1, f2, f3, f4, f5⟩ := box6_all OX
              refine wpAnyH_ready (rs := [17]) (by kernel_rfl) (by simp) ?_
              refine AllReadyH.cons rfl (fun K hK => ?_) AllReadyH.nil
              have OX := own_box6 OX (.int .i64 ph) (.int .i64 cu) (.slice z1 n1 k1) (.slice z2 n2 k2) (.slice z3 n3 k3) (.slice none 0 0)
              have hcur := below_box6 hcur hbx (.int .i64 ph) (.int .i64 cu) (.slice z1 n1 k1) (.slice z2 n2 k2) (.slice z3 n3 k3) (.slice none 0 0)
              go_simp
              refine hK.out _ _ (after_mk hcur) (fun hHeld => ?_)
              clear hK K
              try simp only [Act.put, List.setIfInBounds_toArray, List.set_cons_zero, List.set_cons_succ]
              refine wpAnyH_done (by kernel_rfl) ?_ _
              exact ⟨X84.heap.size, z1, k1, z2, k2, z3, k3, X0.heap.size, X54.heap.size, rfl, rfl, hcur, OX⟩
            · go_simp
              have OX := OX.put (A := []) (B := [(rwD z1 n1 k1 d), (rwN z2 n2 k2 n), (rwH0 X54.heap.size)]) (r := noRow) (r' := (rwB X83.heap.size)) rfl (one_new (w := X83) (.cells #[.int .i64 0, .int .i64 0, .slice none 0 0, .slice none 0 0, .slice none 0 0, .slice none 0 0] 38)) (box_row X83) (Nat.le_refl _) hcur.size
              have hbx : W.heap.size ≤ X83.heap.size := hcur.size
              have hcur := below_after_of hcur (one_new (w := X83) (.cells #[.int .i64 0, .int .i64 0, .slice none 0 0, .slice none 0 0, .slice none 0 0, .slice none 0 0] 38))
              refine hK.out _ _ (after_mk hcur) (fun hHeld => ?_)
              clear hK K
              try simp only [Act.put, List.setIfInBounds_toArray, List.set_cons_zero, List.set_cons_succ]
              generalize hY : World.alloc X83 (.cells #[.int .i64 0, .int .i64 0, .slice none 0 0, .slice none 0 0, .slice none 0 0, .slice none 0 0] 38) = X86 at *
              clear hY
              refine wpAnyH_ready (rs := [14]) (by kernel_rfl) (by simp) ?_
              refine AllReadyH.cons rfl (fun K hK => ?_) AllReadyH.nil
              rw [if_pos (by rfl)]
              refine wp_cpHd _ _ rfl W.heap.size X54.heap.size n3 c3 a3 h HN3.out (by rfl) (OX.own _ (List.mem_append_right [(rwB X83.heap.size), (rwD z1 n1 k1 d), (rwN z2 n2 k2 n)] (List.Mem.head _))) (by rfl) ((HRD.out _ hcur).2.2) HAC.out.2.2 hx3 hcur.size ?_
              intro z3 k3 X87 o2 gr2 hb2
              have OX := OX.laid (A := [(rwB X83.heap.size), (rwD z1 n1 k1 d), (rwN z2 n2 k2 n)]) (B := []) (r := (rwH0 X54.heap.size)) (r' := (rwH z3 n3 k3 h)) rfl gr2 o2 hb2 (Nat.le_refl _)
              have hcur := hcur.grown gr2 hcur.size (fun j e => by cases e; exact hg11)
              clear o2 gr2 hb2
              refine hK.out _ _ (after_mk hcur) (fun hHeld => ?_)
              clear hK K
              try simp only [Act.put, List.setIfInBounds_toArray]
              refine h_take (i := 15) (d := some 20) (v := ?vc35) (by rfl) (by kernel_rfl) (by kernel_rfl) (by kernel_rfl) (fun _ _ _ h => by obtain ⟨_, _, _, _, _, _, _, _, _, h0, _⟩ := h; cases h0) (by rfl) ?hyc35 hHeld ?restc35
              case hyc35 =>
                intro o ho
                simp only [List.getElem?_toArray, List.getElem?_cons_succ, List.getElem?_cons_zero, Option.some.injEq] at ho
                subst ho
                rintro _ ⟨nw, rfl⟩
                first | (go_simp; done) | (go_simp; with_reducible rfl)
              try simp only [Act.put]
              obtain ⟨e0, e1, e2, e3, e4, e5, f0, f1, f2, f3, f4, f5⟩ := box6_all OX
              refine wpAnyH_ready (rs := [17]) (by kernel_rfl) (by simp) ?_
              refine AllReadyH.cons rfl (fun K hK => ?_) AllReadyH.nil
              have OX := own_box6 OX (.int .i64 ph) (.int .i64 cu) (.slice z1 n1 k1) (.slice z2 n2 k2) (.slice z3 n3 k3) (.slice none 0 0)
              have hcur := below_box6 hcur hbx (.int .i64 ph) (.int .i64 cu) (.slice z1 n1 k1) (.slice z2 n2 k2) (.slice z3 n3 k3) (.slice none 0 0)
              go_simp
              refine hK.out _ _ (after_mk hcur) (fun hHeld => ?_)
              clear hK K
              try simp only [Act.put, List.setIfInBounds_toArray, List.set_cons_zero, List.set_cons_succ]
              refine wpAnyH_done (by kernel_rfl) ?_ _
              exact ⟨X83.heap.size, z1, k1, z2, k2, z3, k3, X0.heap.size, X54.heap.size, rfl, rfl, hcur, OX⟩
          · go_simp
            have OX := OX.put (A := []) (B := [(rwD z1 n1 k1 d), (rwN0 X0.heap.size), (rwH0 X54.heap.size)]) (r := noRow) (r' := (rwB X82.heap.size)) rfl (one_new (w := X82) (.cells #[.int .i64 0, .int .i64 0, .slice none 0 0, .slice none 0 0, .slice none 0 0, .slice none 0 0] 38)) (box_row X82) (Nat.le_refl _) hcur.size
            have hbx : W.heap.size ≤ X82.heap.size := hcur.size
            have hcur := below_after_of hcur (one_new (w := X82) (.cells #[.int .i64 0, .int .i64 0, .slice none 0 0, .slice none 0 0, .slice none 0 0, .slice none 0 0] 38))
            refine hK.out _ _ (after_mk hcur) (fun hHeld => ?_)
            clear hK K
            try simp only [Act.put, List.setIfInBounds_toArray, List.set_cons_zero, List.set_cons_succ]
            generalize hY : World.alloc X82 (.cells #[.int .i64 0, .int .i64 0, .slice none 0 0, .slice none 0 0, .slice none 0 0, .slice none 0 0] 38) = X88 at *
            clear hY
            refine wpAnyH_ready (rs := [10]) (by kernel_rfl) (by simp) ?_
            refine AllReadyH.cons rfl (fun K hK => ?_) AllReadyH.nil
            rw [if_pos (by rfl)]
            refine wp_cpSl _ _ rfl W.heap.size X0.heap.size n2 c2 a2 n HN2.out (by rfl) (OX.own _ (List.mem_append_right [(rwB X82.heap.size), (rwD z1 n1 k1 d)] (List.Mem.head _))) (by rfl) ((HRD.out _ hcur).2.1) HAC.out.2.1 hx2 hcur.size ?_
            intro z2 k2 X89 o2 gr2 hb2
            have OX := OX.laid (A := [(rwB X82.heap.size), (rwD z1 n1 k1 d)]) (B := [(rwH0 X54.heap.size)]) (r := (rwN0 X0.heap.size)) (r' := (rwN z2 n2 k2 n)) rfl gr2 o2 hb2 (Nat.le_refl _)
            have hcur := hcur.grown gr2 hcur.size (fun j e => by cases e; exact hg7)
            clear o2 gr2 hb2
            refine hK.out _ _ (after_mk hcur) (fun hHeld => ?_)
            clear hK K
            try simp only [Act.put, List.setIfInBounds_toArray]
            refine wpAnyH_ready (rs := [14]) (by kernel_rfl) (by simp) ?_
            refine AllReadyH.cons rfl (fun K hK => ?_) AllReadyH.nil
            rw [if_pos (by rfl)]
            refine wp_cpHd _ _ rfl W.heap.size X54.heap.size n3 c3 a3 h HN3.out (by rfl) (OX.own _ (List.mem_append_right [(rwB X82.heap.size), (rwD z1 n1 k1 d), (rwN z2 n2 k2 n)] (List.Mem.head _))) (by rfl) ((HRD.out _ hcur).2.2) HAC.out.2.2 hx3 hcur.size ?_
            intro z3 k3 X90 o2 gr2 hb2
            have OX := OX.laid (A := [(rwB X82.heap.size), (rwD z1 n1 k1 d), (rwN z2 n2 k2 n)]) (B := []) (r := (rwH0 X54.heap.size)) (r' := (rwH z3 n3 k3 h)) rfl gr2 o2 hb2 (Nat.le_refl _)
            have hcur := hcur.grown gr2 hcur.size (fun j e => by cases e; exact hg11)
            clear o2 gr2 hb2
            refine hK.out _ _ (after_mk hcur) (fun hHeld => ?_)
            clear hK K
            try simp only [Act.put]
            refine h_take (i := 15) (d := some 20) (v := ?vc36) (by rfl) (by kernel_rfl) (by kernel_rfl) (by kernel_rfl) (fun _ _ _ h => by obtain ⟨_, _, _, _, _, _, _, _, _, h0, _⟩ := h; cases h0) (by rfl) ?hyc36 hHeld ?restc36
            case hyc36 =>
              intro o ho
              simp only [List.getElem?_toArray, List.getElem?_cons_succ, List.getElem?_cons_zero, Option.some.injEq] at ho
              subst ho
              rintro _ ⟨nw, rfl⟩
              first | (go_simp; done) | (go_simp; with_reducible rfl)
            try simp only [Act.put]
            obtain ⟨e0, e1, e2, e3, e4, e5, f0, f1, f2, f3, f4, f5⟩ := box6_all OX
            refine wpAnyH_ready (rs := [17]) (by kernel_rfl) (by simp) ?_
            refine AllReadyH.cons rfl (fun K hK => ?_) AllReadyH.nil
            have OX := own_box6 OX (.int .i64 ph) (.int .i64 cu) (.slice z1 n1 k1) (.slice z2 n2 k2) (.slice z3 n3 k3) (.slice none 0 0)
            have hcur := below_box6 hcur hbx (.int .i64 ph) (.int .i64 cu) (.slice z1 n1 k1) (.slice z2 n2 k2) (.slice z3 n3 k3) (.slice none 0 0)
            go_simp
            refine hK.out _ _ (after_mk hcur) (fun hHeld => ?_)
            clear hK K
            try simp only [Act.put, List.setIfInBounds_toArray, List.set_cons_zero, List.set_cons_succ]
            refine wpAnyH_done (by kernel_rfl) ?_ _
            exact ⟨X82.heap.size, z1, k1, z2, k2, z3, k3, X0.heap.size, X54.heap.size, rfl, rfl, hcur, OX⟩
        · go_simp
          have OX := OX.put (A := []) (B := [noRow, (rwN0 X0.heap.size), (rwH0 X54.heap.size)]) (r := noRow) (r' := (rwB X81.heap.size)) rfl (one_new (w := X81) (.cells #[.int .i64 0, .int .i64 0, .slice none 0 0, .slice none 0 0, .slice none 0 0, .slice none 0 0] 38)) (box_row X81) (Nat.le_refl _) hcur.size
          have hbx : W.heap.size ≤ X81.heap.size := hcur.size
          have hcur := below_after_of hcur (one_new (w := X81) (.cells #[.int .i64 0, .int .i64 0, .slice none 0 0, .slice none 0 0, .slice none 0 0, .slice none 0 0] 38))
          refine hK.out _ _ (after_mk hcur) (fun hHeld => ?_)
          clear hK K
          try simp only [Act.put, List.setIfInBounds_toArray, List.set_cons_zero, List.set_cons_succ]
          generalize hY : World.alloc X81 (.cells #[.int .i64 0, .int .i64 0, .slice none 0 0, .slice none 0 0, .slice none 0 0, .slice none 0 0] 38) = X91 at *
          clear hY
          refine wpAnyH_ready (rs := [6]) (by kernel_rfl) (by simp) ?_
          refine AllReadyH.cons rfl (fun K hK => ?_) AllReadyH.nil
          go_simp
          refine (l9Copy_any a1 n1 c1 d X91 HN1.out ((HRD.out _ hcur).1) HAC.out.1 hx1).mono ?_
          rintro e X92 ⟨z1, k1, rfl, hb, o1⟩
          have OX := OX.put (A := [(rwB X81.heap.size)]) (B := [(rwN0 X0.heap.size), (rwH0 X54.heap.size)]) (r := noRow) (r' := (rwD z1 n1 k1 d)) rfl hb o1 (Nat.le_refl _) hcur.size
          have hcur := below_after_of hcur hb
          clear hb o1
          refine hK.out _ _ (after_mk hcur) (fun hHeld => ?_)
          clear hK K
          try simp only [Act.put, List.setIfInBounds_toArray, List.set_cons_zero, List.set_cons_succ]
          refine wpAnyH_ready (rs := [10]) (by kernel_rfl) (by simp) ?_
          refine AllReadyH.cons rfl (fun K hK => ?_) AllReadyH.nil
          rw [if_pos (by rfl)]
          refine wp_cpSl _ _ rfl W.heap.size X0.heap.size n2 c2 a2 n HN2.out (by rfl) (OX.own _ (List.mem_append_right [(rwB X81.heap.size), (rwD z1 n1 k1 d)] (List.Mem.head _))) (by rfl) ((HRD.out _ hcur).2.1) HAC.out.2.1 hx2 hcur.size ?_
          intro z2 k2 X93 o2 gr2 hb2
          have OX := OX.laid (A := [(rwB X81.heap.size), (rwD z1 n1 k1 d)]) (B := [(rwH0 X54.heap.size)]) (r := (rwN0 X0.heap.size)) (r' := (rwN z2 n2 k2 n)) rfl gr2 o2 hb2 (Nat.le_refl _)
          have hcur := hcur.grown gr2 hcur.size (fun j e => by cases e; exact hg7)
          clear o2 gr2 hb2
          refine hK.out _ _ (after_mk hcur) (fun hHeld => ?_)
          clear hK K
          try simp only [Act.put, List.setIfInBounds_toArray]
          refine wpAnyH_ready (rs := [14]) (by kernel_rfl) (by simp) ?_
          refine AllReadyH.cons rfl (fun K hK => ?_) AllReadyH.nil
          rw [if_pos (by rfl)]
          refine wp_cpHd _ _ rfl W.heap.size X54.heap.size n3 c3 a3 h HN3.out (by rfl) (OX.own _ (List.mem_append_right [(rwB X81.heap.size), (rwD z1 n1 k1 d), (rwN z2 n2 k2 n)] (List.Mem.head _))) (by rfl) ((HRD.out _ hcur).2.2) HAC.out.2.2 hx3 hcur.size ?_
          intro z3 k3 X94 o2 gr2 hb2
          have OX := OX.laid (A := [(rwB X81.heap.size), (rwD z1 n1 k1 d), (rwN z2 n2 k2 n)]) (B := []) (r := (rwH0 X54.heap.size)) (r' := (rwH z3 n3 k3 h)) rfl gr2 o2 hb2 (Nat.le_refl _)
          have hcur := hcur.grown gr2 hcur.size (fun j e => by cases e; exact hg11)
          clear o2 gr2 hb2
          refine hK.out _ _ (after_mk hcur) (fun hHeld => ?_)
          clear hK K
          try simp only [Act.put]
          refine h_take (i := 15) (d := some 20) (v := ?vc37) (by rfl) (by kernel_rfl) (by kernel_rfl) (by kernel_rfl) (fun _ _ _ h => by obtain ⟨_, _, _, _, _, _, _, _, _, h0, _⟩ := h; cases h0) (by rfl) ?hyc37 hHeld ?restc37
          case hyc37 =>
            intro o ho
            simp only [List.getElem?_toArray, List.getElem?_cons_succ, List.getElem?_cons_zero, Option.some.injEq] at ho
            subst ho
            rintro _ ⟨nw, rfl⟩
            first | (go_simp; done) | (go_simp; with_reducible rfl)
          try simp only [Act.put]
          obtain ⟨e0, e1, e2, e3, e4, e5, f0, f1, f2, f3, f4, f5⟩ := box6_all OX
          refine wpAnyH_ready (rs := [17]) (by kernel_rfl) (by simp) ?_
          refine AllReadyH.cons rfl (fun K hK => ?_) AllReadyH.nil
          have OX := own_box6 OX (.int .i64 ph) (.int .i64 cu) (.slice z1 n1 k1) (.slice z2 n2 k2) (.slice z3 n3 k3) (.slice none 0 0)
          have hcur := below_box6 hcur hbx (.int .i64 ph) (.int .i64 cu) (.slice z1 n1 k1) (.slice z2 n2 k2) (.slice z3 n3 k3) (.slice none 0 0)
          go_simp
          refine hK.out _ _ (after_mk hcur) (fun hHeld => ?_)
          clear hK K
          try simp only [Act.put, List.setIfInBounds_toArray, List.set_cons_zero, List.set_cons_succ]
          refine wpAnyH_done (by kernel_rfl) ?_ _
          exact ⟨X81.heap.size, z1, k1, z2, k2, z3, k3, X0.heap.size, X54.heap.size, rfl, rfl, hcur, OX⟩
      · go_simp
        have OX := OX.put (A := []) (B := [noRow, (rwN0 X0.heap.size), noRow]) (r := noRow) (r' := (rwB X54.heap.size)) rfl (one_new (w := X54) (.cells #[.int .i64 0, .int .i64 0, .slice none 0 0, .slice none 0 0, .slice none 0 0, .slice none 0 0] 38)) (box_row X54) (Nat.le_refl _) hcur.size
        have hbx : W.heap.size ≤ X54.heap.size := hcur.size
        have hcur := below_after_of hcur (one_new (w := X54) (.cells #[.int .i64 0, .int .i64 0, .slice none 0 0, .slice none 0 0, .slice none 0 0, .slice none 0 0] 38))
        refine hK.out _ _ (after_mk hcur) (fun hHeld => ?_)
        clear hK K
        try simp only [Act.put, List.setIfInBounds_toArray, List.set_cons_zero, List.set_cons_succ]
        generalize hY : World.alloc X54 (.cells #[.int .i64 0, .int .i64 0, .slice none 0 0, .slice none 0 0, .slice none 0 0, .slice none 0 0] 38) = X95 at *
        clear hY
        refine wpAnyH_ready (rs := [6, 11]) (by kernel_rfl) (by simp) ?_
        refine AllReadyH.cons rfl (fun K hK => ?_) (AllReadyH.cons rfl (fun K hK => ?_) AllReadyH.nil)
        · go_simp
          refine (l9Copy_any a1 n1 c1 d X95 HN1.out ((HRD.out _ hcur).1) HAC.out.1 hx1).mono ?_
          rintro e X96 ⟨z1, k1, rfl, hb, o1⟩
          have OX := OX.put (A := [(rwB X54.heap.size)]) (B := [(rwN0 X0.heap.size), noRow]) (r := noRow) (r' := (rwD z1 n1 k1 d)) rfl hb o1 (Nat.le_refl _) hcur.size
          have hcur := below_after_of hcur hb
          clear hb o1
          refine hK.out _ _ (after_mk hcur) (fun hHeld => ?_)
          clear hK K
          try simp only [Act.put, List.setIfInBounds_toArray, List.set_cons_zero, List.set_cons_succ]
          refine wpAnyH_ready (rs := [10, 11]) (by kernel_rfl) (by simp) ?_
          refine AllReadyH.cons rfl (fun K hK => ?_) (AllReadyH.cons rfl (fun K hK => ?_) AllReadyH.nil)
          · rw [if_pos (by rfl)]
            refine wp_cpSl _ _ rfl W.heap.size X0.heap.size n2 c2 a2 n HN2.out (by rfl) (OX.own _ (List.mem_append_right [(rwB X54.heap.size), (rwD z1 n1 k1 d)] (List.Mem.head _))) (by rfl) ((HRD.out _ hcur).2.1) HAC.out.2.1 hx2 hcur.size ?_
            intro z2 k2 X97 o2 gr2 hb2
            have OX := OX.laid (A := [(rwB X54.heap.size), (rwD z1 n1 k1 d)]) (B := [noRow]) (r := (rwN0 X0.heap.size)) (r' := (rwN z2 n2 k2 n)) rfl gr2 o2 hb2 (Nat.le_refl _)
            have hcur := hcur.grown gr2 hcur.size (fun j e => by cases e; exact hg7)
            clear o2 gr2 hb2
            refine hK.out _ _ (after_mk hcur) (fun hHeld => ?_)
            clear hK K
            try simp only [Act.put, List.setIfInBounds_toArray]
            refine wpAnyH_ready (rs := [11]) (by kernel_rfl) (by simp) ?_
            refine AllReadyH.cons rfl (fun K hK => ?_) AllReadyH.nil
            go_simp
            have OX := OX.put (A := [(rwB X54.heap.size), (rwD z1 n1 k1 d), (rwN z2 n2 k2 n)]) (B := []) (r := noRow) (r' := (rwH0 X97.heap.size)) rfl (one_new (w := X97) (.cells #[] 88)) (none_cpHd X97) (Nat.le_refl _) hcur.size
            have hg11 : W.heap.size ≤ X97.heap.size := hcur.size
            have hcur := below_after_of hcur (one_new (w := X97) (.cells #[] 88))
            refine hK.out _ _ (after_mk hcur) (fun hHeld => ?_)
            clear hK K
            try simp only [Act.put, List.setIfInBounds_toArray, List.set_cons_zero, List.set_cons_succ]
            generalize hY : World.alloc X97 (.cells #[] 88) = X98 at *
            clear hY
            refine wpAnyH_ready (rs := [14]) (by kernel_rfl) (by simp) ?_
            refine AllReadyH.cons rfl (fun K hK => ?_) AllReadyH.nil
            rw [if_pos (by rfl)]
            refine wp_cpHd _ _ rfl W.heap.size X97.heap.size n3 c3 a3 h HN3.out (by rfl) (OX.own _ (List.mem_append_right [(rwB X54.heap.size), (rwD z1 n1 k1 d), (rwN z2 n2 k2 n)] (List.Mem.head _))) (by rfl) ((HRD.out _ hcur).2.2) HAC.out.2.2 hx3 hcur.size ?_
            intro z3 k3 X99 o2 gr2 hb2
            have OX := OX.laid (A := [(rwB X54.heap.size), (rwD z1 n1 k1 d), (rwN z2 n2 k2 n)]) (B := []) (r := (rwH0 X97.heap.size)) (r' := (rwH z3 n3 k3 h)) rfl gr2 o2 hb2 (Nat.le_refl _)
            have hcur := hcur.grown gr2 hcur.size (fun j e => by cases e; exact hg11)
            clear o2 gr2 hb2
            refine hK.out _ _ (after_mk hcur) (fun hHeld => ?_)
            clear hK K
            try simp only [Act.put, List.setIfInBounds_toArray]
            refine h_take (i := 15) (d := some 20) (v := ?vc38) (by rfl) (by kernel_rfl) (by kernel_rfl) (by kernel_rfl) (fun _ _ _ h => by obtain ⟨_, _, _, _, _, _, _, _, _, h0, _⟩ := h; cases h0) (by rfl) ?hyc38 hHeld ?restc38
            case hyc38 =>
              intro o ho
              simp only [List.getElem?_toArray, List.getElem?_cons_succ, List.getElem?_cons_zero, Option.some.injEq] at ho
              subst ho
              rintro _ ⟨nw, rfl⟩
              first | (go_simp; done) | (go_simp; with_reducible rfl)
            try simp only [Act.put]
            obtain ⟨e0, e1, e2, e3, e4, e5, f0, f1, f2, f3, f4, f5⟩ := box6_all OX
            refine wpAnyH_ready (rs := [17]) (by kernel_rfl) (by simp) ?_
            refine AllReadyH.cons rfl (fun K hK => ?_) AllReadyH.nil
            have OX := own_box6 OX (.int .i64 ph) (.int .i64 cu) (.slice z1 n1 k1) (.slice z2 n2 k2) (.slice z3 n3 k3) (.slice none 0 0)
            have hcur := below_box6 hcur hbx (.int .i64 ph) (.int .i64 cu) (.slice z1 n1 k1) (.slice z2 n2 k2) (.slice z3 n3 k3) (.slice none 0 0)
            go_simp
            refine hK.out _ _ (after_mk hcur) (fun hHeld => ?_)
            clear hK K
            try simp only [Act.put, List.setIfInBounds_toArray, List.set_cons_zero, List.set_cons_succ]
            refine wpAnyH_done (by kernel_rfl) ?_ _
            exact ⟨X54.heap.size, z1, k1, z2, k2, z3, k3, X0.heap.size, X97.heap.size, rfl, rfl, hcur, OX⟩
          · go_simp
            have OX := OX.put (A := [(rwB X54.heap.size), (rwD z1 n1 k1 d), (rwN0 X0.heap.size)]) (B := []) (r := noRow) (r' := (rwH0 X96.heap.size)) rfl (one_new (w := X96) (.cells #[] 88)) (none_cpHd X96) (Nat.le_refl _) hcur.size
            have hg11 : W.heap.size ≤ X96.heap.size := hcur.size
            have hcur := below_after_of hcur (one_new (w := X96) (.cells #[] 88))
            refine hK.out _ _ (after_mk hcur) (fun hHeld => ?_)
            clear hK K
            try simp only [Act.put, List.setIfInBounds_toArray, List.set_cons_zero, List.set_cons_succ]
            generalize hY : World.alloc X96 (.cells #[] 88) = X100 at *
            clear hY
            refine wpAnyH_ready (rs := [10]) (by kernel_rfl) (by simp) ?_
            refine AllReadyH.cons rfl (fun K hK => ?_) AllReadyH.nil
            rw [if_pos (by rfl)]
            refine wp_cpSl _ _ rfl W.heap.size X0.heap.size n2 c2 a2 n HN2.out (by rfl) (OX.own _ (List.mem_append_right [(rwB X54.heap.size), (rwD z1 n1 k1 d)] (List.Mem.head _))) (by rfl) ((HRD.out _ hcur).2.1) HAC.out.2.1 hx2 hcur.size ?_
            intro z2 k2 X101 o2 gr2 hb2
            have OX := OX.laid (A := [(rwB X54.heap.size), (rwD z1 n1 k1 d)]) (B := [(rwH0 X96.heap.size)]) (r := (rwN0 X0.heap.size)) (r' := (rwN z2 n2 k2 n)) rfl gr2 o2 hb2 (Nat.le_refl _)
            have hcur := hcur.grown gr2 hcur.size (fun j e => by cases e; exact hg7)
            clear o2 gr2 hb2
            refine hK.out _ _ (after_mk hcur) (fun hHeld => ?_)
            clear hK K
            try simp only [Act.put, List.setIfInBounds_toArray]
            refine wpAnyH_ready (rs := [14]) (by kernel_rfl) (by simp) ?_
            refine AllReadyH.cons rfl (fun K hK => ?_) AllReadyH.nil
            rw [if_pos (by rfl)]
            refine wp_cpHd _ _ rfl W.heap.size X96.heap.size n3 c3 a3 h HN3.out (by rfl) (OX.own _ (List.mem_append_right [(rwB X54.heap.size), (rwD z1 n1 k1 d), (rwN z2 n2 k2 n)] (List.Mem.head _))) (by rfl) ((HRD.out _ hcur).2.2) HAC.out.2.2 hx3 hcur.size ?_
            intro z3 k3 X102 o2 gr2 hb2
            have OX := OX.laid (A := [(rwB X54.heap.size), (rwD z1 n1 k1 d), (rwN z2 n2 k2 n)]) (B := []) (r := (rwH0 X96.heap.size)) (r' := (rwH z3 n3 k3 h)) rfl gr2 o2 hb2 (Nat.le_refl _)
            have hcur := hcur.grown gr2 hcur.size (fun j e => by cases e; exact hg11)
            clear o2 gr2 hb2
            refine hK.out _ _ (after_mk hcur) (fun hHeld => ?_)
            clear hK K
            try simp only [Act.put]
            refine h_take (i := 15) (d := some 20) (v := ?vc39) (by rfl) (by kernel_rfl) (by kernel_rfl) (by kernel_rfl) (fun _ _ _ h => by obtain ⟨_, _, _, _, _, _, _, _, _, h0, _⟩ := h; cases h0) (by rfl) ?hyc39 hHeld ?restc39
            case hyc39 =>
              intro o ho
              simp only [List.getElem?_toArray, List.getElem?_cons_succ, List.getElem?_cons_zero, Option.some.injEq] at ho
              subst ho
              rintro _ ⟨nw, rfl⟩
              first | (go_simp; done) | (go_simp; with_reducible rfl)
            try simp only [Act.put]
            obtain ⟨e0, e1, e2, e3, e4, e5, f0, f1, f2, f3, f4, f5⟩ := box6_all OX
            refine wpAnyH_ready (rs := [17]) (by kernel_rfl) (by simp) ?_
            refine AllReadyH.cons rfl (fun K hK => ?_) AllReadyH.nil
            have OX := own_box6 OX (.int .i64 ph) (.int .i64 cu) (.slice z1 n1 k1) (.slice z2 n2 k2) (.slice z3 n3 k3) (.slice none 0 0)
            have hcur := below_box6 hcur hbx (.int .i64 ph) (.int .i64 cu) (.slice z1 n1 k1) (.slice z2 n2 k2) (.slice z3 n3 k3) (.slice none 0 0)
            go_simp
            refine hK.out _ _ (after_mk hcur) (fun hHeld => ?_)
            clear hK K
            try simp only [Act.put, List.setIfInBounds_toArray, List.set_cons_zero, List.set_cons_succ]
            refine wpAnyH_done (by kernel_rfl) ?_ _
            exact ⟨X54.heap.size, z1, k1, z2, k2, z3, k3, X0.heap.size, X96.heap.size, rfl, rfl, hcur, OX⟩
        · go_simp
          have OX := OX.put (A := [(rwB X54.heap.size), noRow, (rwN0 X0.heap.size)]) (B := []) (r := noRow) (r' := (rwH0 X95.heap.size)) rfl (one_new (w := X95) (.cells #[] 88)) (none_cpHd X95) (Nat.le_refl _) hcur.size
          have hg11 : W.heap.size ≤ X95.heap.size := hcur.size
          have hcur := below_after_of hcur (one_new (w := X95) (.cells #[] 88))
          refine hK.out _ _ (after_mk hcur) (fun hHeld => ?_)
          clear hK K
          try simp only [Act.put, List.setIfInBounds_toArray, List.set_cons_zero, List.set_cons_succ]
          generalize hY : World.alloc X95 (.cells #[] 88) = X103 at *
          clear hY
          refine wpAnyH_ready (rs := [6]) (by kernel_rfl) (by simp) ?_
          refine AllReadyH.cons rfl (fun K hK => ?_) AllReadyH.nil
          go_simp
          refine (l9Copy_any a1 n1 c1 d X103 HN1.out ((HRD.out _ hcur).1) HAC.out.1 hx1).mono ?_
          rintro e X104 ⟨z1, k1, rfl, hb, o1⟩
          have OX := OX.put (A := [(rwB X54.heap.size)]) (B := [(rwN0 X0.heap.size), (rwH0 X95.heap.size)]) (r := noRow) (r' := (rwD z1 n1 k1 d)) rfl hb o1 (Nat.le_refl _) hcur.size
          have hcur := below_after_of hcur hb
          clear hb o1
          refine hK.out _ _ (after_mk hcur) (fun hHeld => ?_)
          clear hK K
          try simp only [Act.put, List.setIfInBounds_toArray, List.set_cons_zero, List.set_cons_succ]
          refine wpAnyH_ready (rs := [10]) (by kernel_rfl) (by simp) ?_
          refine AllReadyH.cons rfl (fun K hK => ?_) AllReadyH.nil
          rw [if_pos (by rfl)]
          refine wp_cpSl _ _ rfl W.heap.size X0.heap.size n2 c2 a2 n HN2.out (by rfl) (OX.own _ (List.mem_append_right [(rwB X54.heap.size), (rwD z1 n1 k1 d)] (List.Mem.head _))) (by rfl) ((HRD.out _ hcur).2.1) HAC.out.2.1 hx2 hcur.size ?_
          intro z2 k2 X105 o2 gr2 hb2
          have OX := OX.laid (A := [(rwB X54.heap.size), (rwD z1 n1 k1 d)]) (B := [(rwH0 X95.heap.size)]) (r := (rwN0 X0.heap.size)) (r' := (rwN z2 n2 k2 n)) rfl gr2 o2 hb2 (Nat.le_refl _)
          have hcur := hcur.grown gr2 hcur.size (fun j e => by cases e; exact hg7)
          clear o2 gr2 hb2
          refine hK.out _ _ (after_mk hcur) (fun hHeld => ?_)
          clear hK K
          try simp only [Act.put, List.setIfInBounds_toArray]
          refine wpAnyH_ready (rs := [14]) (by kernel_rfl) (by simp) ?_
          refine AllReadyH.cons rfl (fun K hK => ?_) AllReadyH.nil
          rw [if_pos (by rfl)]
          refine wp_cpHd _ _ rfl W.heap.size X95.heap.size n3 c3 a3 h HN3.out (by rfl) (OX.own _ (List.mem_append_right [(rwB X54.heap.size), (rwD z1 n1 k1 d), (rwN z2 n2 k2 n)] (List.Mem.head _))) (by rfl) ((HRD.out _ hcur).2.2) HAC.out.2.2 hx3 hcur.size ?_
          intro z3 k3 X106 o2 gr2 hb2
          have OX := OX.laid (A := [(rwB X54.heap.size), (rwD z1 n1 k1 d), (rwN z2 n2 k2 n)]) (B := []) (r := (rwH0 X95.heap.size)) (r' := (rwH z3 n3 k3 h)) rfl gr2 o2 hb2 (Nat.le_refl _)
          have hcur := hcur.grown gr2 hcur.size (fun j e => by cases e; exact hg11)
          clear o2 gr2 hb2
          refine hK.out _ _ (after_mk hcur) (fun hHeld => ?_)
          clear hK K
          try simp only [Act.put]
          refine h_take (i := 15) (d := some 20) (v := ?vc40) (by rfl) (by kernel_rfl) (by kernel_rfl) (by kernel_rfl) (fun _ _ _ h => by obtain ⟨_, _, _, _, _, _, _, _, _, h0, _⟩ := h; cases h0) (by rfl) ?hyc40 hHeld ?restc40
          case hyc40 =>
            intro o ho
            simp only [List.getElem?_toArray, List.getElem?_cons_succ, List.getElem?_cons_zero, Option.some.injEq] at ho
            subst ho
            rintro _ ⟨nw, rfl⟩
            first | (go_simp; done) | (go_simp; with_reducible rfl)
          try simp only [Act.put]
          obtain ⟨e0, e1, e2, e3, e4, e5, f0, f1, f2, f3, f4, f5⟩ := box6_all OX
          refine wpAnyH_ready (rs := [17]) (by kernel_rfl) (by simp) ?_
          refine AllReadyH.cons rfl (fun K hK => ?_) AllReadyH.nil
          have OX := own_box6 OX (.int .i64 ph) (.int .i64 cu) (.slice z1 n1 k1) (.slice z2 n2 k2) (.slice z3 n3 k3) (.slice none 0 0)
          have hcur := below_box6 hcur hbx (.int .i64 ph) (.int .i64 cu) (.slice z1 n1 k1) (.slice z2 n2 k2) (.slice z3 n3 k3) (.slice none 0 0)
          go_simp
          refine hK.out _ _ (after_mk hcur) (fun hHeld => ?_)
          clear hK K
          try simp only [Act.put, List.setIfInBounds_toArray, List.set_cons_zero, List.set_cons_succ]
          refine wpAnyH_done (by kernel_rfl) ?_ _
          exact ⟨X54.heap.size, z1, k1, z2, k2, z3, k3, X0.heap.size, X95.heap.size, rfl, rfl, hcur, OX⟩
    · go_simp
      have OX := OX.put (A := [noRow, noRow, noRow]) (B := []) (r := noRow) (r' := (rwH0 X0.heap.size)) rfl (one_new (w := X0) (.cells #[] 88)) (none_cpHd X0) (Nat.le_refl _) hcur.size
      have hg11 : W.heap.size ≤ X0.heap.size := hcur.size
      have hcur := below_after_of hcur (one_new (w := X0) (.cells #[] 88))
      refine hK.out _ _ (after_mk hcur) (fun hHeld => ?_)
      clear hK K
      try simp only [Act.put, List.setIfInBounds_toArray, List.set_cons_zero, List.set_cons_succ]
      generalize hY : World.alloc X0 (.cells #[] 88) = X107 at *
      clear hY
      refine wpAnyH_ready (rs := [6, 7, 16]) (by kernel_rfl) (by simp) ?_
      refine AllReadyH.cons rfl (fun K hK => ?_) (AllReadyH.cons rfl (fun K hK => ?_) (AllReadyH.cons rfl (fun K hK => ?_) AllReadyH.nil))
      · go_simp
        refine (l9Copy_any a1 n1 c1 d X107 HN1.out ((HRD.out _ hcur).1) HAC.out.1 hx1).mono ?_
        rintro e X108 ⟨z1, k1, rfl, hb, o1⟩
        have OX := OX.put (A := [noRow]) (B := [noRow, (rwH0 X0.heap.size)]) (r := noRow) (r' := (rwD z1 n1 k1 d)) rfl hb o1 (Nat.le_refl _) hcur.size
        have hcur := below_after_of hcur hb
        clear hb o1
        refine hK.out _ _ (after_mk hcur) (fun hHeld => ?_)
        clear hK K
        try simp only [Act.put, List.setIfInBounds_toArray, List.set_cons_zero, List.set_cons_succ]
        refine wpAnyH_ready (rs := [7, 16]) (by kernel_rfl) (by simp) ?_
        refine AllReadyH.cons rfl (fun K hK => ?_) (AllReadyH.cons rfl (fun K hK => ?_) AllReadyH.nil)
        · go_simp
          have OX := OX.put (A := [noRow, (rwD z1 n1 k1 d)]) (B := [(rwH0 X0.heap.size)]) (r := noRow) (r' := (rwN0 X108.heap.size)) rfl (one_new (w := X108) (.cells #[] 57)) (none_cpSl X108) (Nat.le_refl _) hcur.size
          have hg7 : W.heap.size ≤ X108.heap.size := hcur.size
          have hcur := below_after_of hcur (one_new (w := X108) (.cells #[] 57))
          refine hK.out _ _ (after_mk hcur) (fun hHeld => ?_)
          clear hK K
          try simp only [Act.put, List.setIfInBounds_toArray, List.set_cons_zero, List.set_cons_succ]
          generalize hY : World.alloc X108 (.cells #[] 57) = X109 at *
          clear hY
          refine wpAnyH_ready (rs := [10, 16]) (by kernel_rfl) (by simp) ?_
          refine AllReadyH.cons rfl (fun K hK => ?_) (AllReadyH.cons rfl (fun K hK => ?_) AllReadyH.nil)
          · rw [if_pos (by rfl)]
            refine wp_cpSl _ _ rfl W.heap.size X108.heap.size n2 c2 a2 n HN2.out (by rfl) (OX.own _ (List.mem_append_right [noRow, (rwD z1 n1 k1 d)] (List.Mem.head _))) (by rfl) ((HRD.out _ hcur).2.1) HAC.out.2.1 hx2 hcur.size ?_
            intro z2 k2 X110 o2 gr2 hb2
            have OX := OX.laid (A := [noRow, (rwD z1 n1 k1 d)]) (B := [(rwH0 X0.heap.size)]) (r := (rwN0 X108.heap.size)) (r' := (rwN z2 n2 k2 n)) rfl gr2 o2 hb2 (Nat.le_refl _)
            have hcur := hcur.grown gr2 hcur.size (fun j e => by cases e; exact hg7)
            clear o2 gr2 hb2
            refine hK.out _ _ (after_mk hcur) (fun hHeld => ?_)
            clear hK K
            try simp only [Act.put, List.setIfInBounds_toArray]
            refine wpAnyH_ready (rs := [14, 16]) (by kernel_rfl) (by simp) ?_
            refine AllReadyH.cons rfl (fun K hK => ?_) (AllReadyH.cons rfl (fun K hK => ?_) AllReadyH.nil)
            · rw [if_pos (by rfl)]
              refine wp_cpHd _ _ rfl W.heap.size X0.heap.size n3 c3 a3 h HN3.out (by rfl) (OX.own _ (List.mem_append_right [noRow, (rwD z1 n1 k1 d), (rwN z2 n2 k2 n)] (List.Mem.head _))) (by rfl) ((HRD.out _ hcur).2.2) HAC.out.2.2 hx3 hcur.size ?_
              intro z3 k3 X111 o2 gr2 hb2
              have OX := OX.laid (A := [noRow, (rwD z1 n1 k1 d), (rwN z2 n2 k2 n)]) (B := []) (r := (rwH0 X0.heap.size)) (r' := (rwH z3 n3 k3 h)) rfl gr2 o2 hb2 (Nat.le_refl _)
              have hcur := hcur.grown gr2 hcur.size (fun j e => by cases e; exact hg11)
              clear o2 gr2 hb2
              refine hK.out _ _ (after_mk hcur) (fun hHeld => ?_)
              clear hK K
              try simp only [Act.put]
              refine h_take (i := 15) (d := some 20) (v := ?vc41) (by rfl) (by kernel_rfl) (by kernel_rfl) (by kernel_rfl) (fun _ _ _ h => by obtain ⟨_, _, _, _, _, _, _, _, _, h0, _⟩ := h; cases h0) (by rfl) ?hyc41 hHeld ?restc41
              case hyc41 =>
                intro o ho
                simp only [List.getElem?_toArray, List.getElem?_cons_succ, List.getElem?_cons_zero, Option.some.injEq] at ho
                subst ho
                rintro _ ⟨nw, rfl⟩
                first | (go_simp; done) | (go_simp; with_reducible rfl)
              try simp only [Act.put]
              refine wpAnyH_ready (rs := [16]) (by kernel_rfl) (by simp) ?_
              refine AllReadyH.cons rfl (fun K hK => ?_) AllReadyH.nil
              go_simp
              have OX := OX.put (A := []) (B := [(rwD z1 n1 k1 d), (rwN z2 n2 k2 n), (rwH z3 n3 k3 h)]) (r := noRow) (r' := (rwB X111.heap.size)) rfl (one_new (w := X111) (.cells #[.int .i64 0, .int .i64 0, .slice none 0 0, .slice none 0 0, .slice none 0 0, .slice none 0 0] 38)) (box_row X111) (Nat.le_refl _) hcur.size
              have hbx : W.heap.size ≤ X111.heap.size := hcur.size
              have hcur := below_after_of hcur (one_new (w := X111) (.cells #[.int .i64 0, .int .i64 0, .slice none 0 0, .slice none 0 0, .slice none 0 0, .slice none 0 0] 38))
              refine hK.out _ _ (after_mk hcur) (fun hHeld => ?_)
              clear hK K
              try simp only [Act.put, List.setIfInBounds_toArray, List.set_cons_zero, List.set_cons_succ]
              generalize hY : World.alloc X111 (.cells #[.int .i64 0, .int .i64 0, .slice none 0 0, .slice none 0 0, .slice none 0 0, .slice none 0 0] 38) = X112 at *
              clear hY
              obtain ⟨e0, e1, e2, e3, e4, e5, f0, f1, f2, f3, f4, f5⟩ := box6_all OX
              refine wpAnyH_ready (rs := [17]) (by kernel_rfl) (by simp) ?_
              refine AllReadyH.cons rfl (fun K hK => ?_) AllReadyH.nil
              have OX := own_box6 OX (.int .i64 ph) (.int .i64 cu) (.slice z1 n1 k1) (.slice z2 n2 k2) (.slice z3 n3 k3) (.slice none 0 0)
              have hcur := below_box6 hcur hbx (.int .i64 ph) (.int .i64 cu) (.slice z1 n1 k1) (.slice z2 n2 k2) (.slice z3 n3 k3) (.slice none 0 0)
              go_simp
              refine hK.out _ _ (after_mk hcur) (fun hHeld => ?_)
              clear hK K
              try simp only [Act.put, List.setIfInBounds_toArray, List.set_cons_zero, List.set_cons_succ]
              refine wpAnyH_done (by kernel_rfl) ?_ _
              exact ⟨X111.heap.size, z1, k1, z2, k2, z3, k3, X108.heap.size, X0.heap.size, rfl, rfl, hcur, OX⟩
            · go_simp
              have OX := OX.put (A := []) (B := [(rwD z1 n1 k1 d), (rwN z2 n2 k2 n), (rwH0 X0.heap.size)]) (r := noRow) (r' := (rwB X110.heap.size)) rfl (one_new (w := X110) (.cells #[.int .i64 0, .int .i64 0, .slice none 0 0, .slice none 0 0, .slice none 0 0, .slice none 0 0] 38)) (box_row X110) (Nat.le_refl _) hcur.size
              have hbx : W.heap.size ≤ X110.heap.size := hcur.size
              have hcur := below_after_of hcur (one_new (w := X110) (.cells #[.int .i64 0, .int .i64 0, .slice none 0 0, .slice none 0 0, .slice none 0 0, .slice none 0 0] 38))
              refine hK.out _ _ (after_mk hcur) (fun hHeld => ?_)
              clear hK K
              try simp only [Act.put, List.setIfInBounds_toArray, List.set_cons_zero, List.set_cons_succ]
              generalize hY : World.alloc X110 (.cells #[.int .i64 0, .int .i64 0, .slice none 0 0, .slice none 0 0, .slice none 0 0, .slice none 0 0] 38) = X113 at *
              clear hY
              refine wpAnyH_ready (rs := [14]) (by kernel_rfl) (by simp) ?_
              refine AllReadyH.cons rfl (fun K hK => ?_) AllReadyH.nil
              rw [if_pos (by rfl)]
              refine wp_cpHd _ _ rfl W.heap.size X0.heap.size n3 c3 a3 h HN3.out (by rfl) (OX.own _ (List.mem_append_right [(rwB X110.heap.size), (rwD z1 n1 k1 d), (rwN z2 n2 k2 n)] (List.Mem.head _))) (by rfl) ((HRD.out _ hcur).2.2) HAC.out.2.2 hx3 hcur.size ?_
              intro z3 k3 X114 o2 gr2 hb2
              have OX := OX.laid (A := [(rwB X110.heap.size), (rwD z1 n1 k1 d), (rwN z2 n2 k2 n)]) (B := []) (r := (rwH0 X0.heap.size)) (r' := (rwH z3 n3 k3 h)) rfl gr2 o2 hb2 (Nat.le_refl _)
              have hcur := hcur.grown gr2 hcur.size (fun j e => by cases e; exact hg11)
              clear o2 gr2 hb2
              refine hK.out _ _ (after_mk hcur) (fun hHeld => ?_)
              clear hK K
              try simp only [Act.put, List.setIfInBounds_toArray]
              refine h_take (i := 15) (d := some 20) (v := ?vc42) (by rfl) (by kernel_rfl) (by kernel_rfl) (by kernel_rfl) (fun _ _ _ h => by obtain ⟨_, _, _, _, _, _, _, _, _, h0, _⟩ := h; cases h0) (by rfl) ?hyc42 hHeld ?restc42
              case hyc42 =>
                intro o ho
                simp only [List.getElem?_toArray, List.getElem?_cons_succ, List.getElem?_cons_zero, Option.some.injEq] at ho
                subst ho
                rintro _ ⟨nw, rfl⟩
                first | (go_simp; done) | (go_simp; with_reducible rfl)
              try simp only [Act.put]
              obtain ⟨e0, e1, e2, e3, e4, e5, f0, f1, f2, f3, f4, f5⟩ := box6_all OX
              refine wpAnyH_ready (rs := [17]) (by kernel_rfl) (by simp) ?_
              refine AllReadyH.cons rfl (fun K hK => ?_) AllReadyH.nil
              have OX := own_box6 OX (.int .i64 ph) (.int .i64 cu) (.slice z1 n1 k1) (.slice z2 n2 k2) (.slice z3 n3 k3) (.slice none 0 0)
              have hcur := below_box6 hcur hbx (.int .i64 ph) (.int .i64 cu) (.slice z1 n1 k1) (.slice z2 n2 k2) (.slice z3 n3 k3) (.slice none 0 0)
              go_simp
              refine hK.out _ _ (after_mk hcur) (fun hHeld => ?_)
              clear hK K
              try simp only [Act.put, List.setIfInBounds_toArray, List.set_cons_zero, List.set_cons_succ]
              refine wpAnyH_done (by kernel_rfl) ?_ _
              exact ⟨X110.heap.size, z1, k1, z2, k2, z3, k3, X108.heap.size, X0.heap.size, rfl, rfl, hcur, OX⟩
          · go_simp
            have OX := OX.put (A := []) (B := [(rwD z1 n1 k1 d), (rwN0 X108.heap.size), (rwH0 X0.heap.size)]) (r := noRow) (r' := (rwB X109.heap.size)) rfl (one_new (w := X109) (.cells #[.int .i64 0, .int .i64 0, .slice none 0 0, .slice none 0 0, .slice none 0 0, .slice none 0 0] 38)) (box_row X109) (Nat.le_refl _) hcur.size
            have hbx : W.heap.size ≤ X109.heap.size := hcur.size
            have hcur := below_after_of hcur (one_new (w := X109) (.cells #[.int .i64 0, .int .i64 0, .slice none 0 0, .slice none 0 0, .slice none 0 0, .slice none 0 0] 38))
            refine hK.out _ _ (after_mk hcur) (fun hHeld => ?_)
            clear hK K
            try simp only [Act.put, List.setIfInBounds_toArray, List.set_cons_zero, List.set_cons_succ]
            generalize hY : World.alloc X109 (.cells #[.int .i64 0, .int .i64 0, .slice none 0 0, .slice none 0 0, .slice none 0 0, .slice none 0 0] 38) = X115 at *
            clear hY
            refine wpAnyH_ready (rs := [10]) (by kernel_rfl) (by simp) ?_
            refine AllReadyH.cons rfl (fun K hK => ?_) AllReadyH.nil
            rw [if_pos (by rfl)]
            refine wp_cpSl _ _ rfl W.heap.size X108.heap.size n2 c2 a2 n HN2.out (by rfl) (OX.own _ (List.mem_append_right [(rwB X109.heap.size), (rwD z1 n1 k1 d)] (List.Mem.head _))) (by rfl) ((HRD.out _ hcur).2.1) HAC.out.2.1 hx2 hcur.size ?_
            intro z2 k2 X116 o2 gr2 hb2
            have OX := OX.laid (A := [(rwB X109.heap.size), (rwD z1 n1 k1 d)]) (B := [(rwH0 X0.heap.size)]) (r := (rwN0 X108.heap.size)) (r' := (rwN z2 n2 k2 n)) rfl gr2 o2 hb2 (Nat.le_refl _)
            have hcur := hcur.grown gr2 hcur.size (fun j e => by cases e; exact hg7)
            clear o2 gr2 hb2
            refine hK.out _ _ (after_mk hcur) (fun hHeld => ?_)
            clear hK K
            try simp only [Act.put, List.setIfInBounds_toArray]
            refine wpAnyH_ready (rs := [14]) (by kernel_rfl) (by simp) ?_
            refine AllReadyH.cons rfl (fun K hK => ?_) AllReadyH.nil
            rw [if_pos (by rfl)]
            refine wp_cpHd _ _ rfl W.heap.size X0.heap.size n3 c3 a3 h HN3.out (by rfl) (OX.own _ (List.mem_append_right [(rwB X109.heap.size), (rwD z1 n1 k1 d), (rwN z2 n2 k2 n)] (List.Mem.head _))) (by rfl) ((HRD.out _ hcur).2.2) HAC.out.2.2 hx3 hcur.size ?_
            intro z3 k3 X117 o2 gr2 hb2
            have OX := OX.laid (A := [(rwB X109.heap.size), (rwD z1 n1 k1 d), (rwN z2 n2 k2 n)]) (B := []) (r := (rwH0 X0.heap.size)) (r' := (rwH z3 n3 k3 h)) rfl gr2 o2 hb2 (Nat.le_refl _)
            have hcur := hcur.grown gr2 hcur.size (fun j e => by cases e; exact hg11)
            clear o2 gr2 hb2
            refine hK.out _ _ (after_mk hcur) (fun hHeld => ?_)
            clear hK K
            try simp only [Act.put]
            refine h_take (i := 15) (d := some 20) (v := ?vc43) (by rfl) (by kernel_rfl) (by kernel_rfl) (by kernel_rfl) (fun _ _ _ h => by obtain ⟨_, _, _, _, _, _, _, _, _, h0, _⟩ := h; cases h0) (by rfl) ?hyc43 hHeld ?restc43
            case hyc43 =>
              intro o ho
              simp only [List.getElem?_toArray, List.getElem?_cons_succ, List.getElem?_cons_zero, Option.some.injEq] at ho
              subst ho
              rintro _ ⟨nw, rfl⟩
              first | (go_simp; done) | (go_simp; with_reducible rfl)
            try simp only [Act.put]
            obtain ⟨e0, e1, e2, e3, e4, e5, f0, f1, f2, f3, f4, f5⟩ := box6_all OX
            refine wpAnyH_ready (rs := [17]) (by kernel_rfl) (by simp) ?_
            refine AllReadyH.cons rfl (fun K hK => ?_) AllReadyH.nil
            have OX := own_box6 OX (.int .i64 ph) (.int .i64 cu) (.slice z1 n1 k1) (.slice z2 n2 k2) (.slice z3 n3 k3) (.slice none 0 0)
            have hcur := below_box6 hcur hbx (.int .i64 ph) (.int .i64 cu) (.slice z1 n1 k1) (.slice z2 n2 k2) (.slice z3 n3 k3) (.slice none 0 0)
            go_simp
            refine hK.out _ _ (after_mk hcur) (fun hHeld => ?_)
            clear hK K
            try simp only [Act.put, List.setIfInBounds_toArray, List.set_cons_zero, List.set_cons_succ]
            refine wpAnyH_done (by kernel_rfl) ?_ _
            exact ⟨X109.heap.size, z1, k1, z2, k2, z3, k3, X108.heap.size, X0.heap.size, rfl, rfl, hcur, OX⟩
        · go_simp
          have OX := OX.put (A := []) (B := [(rwD z1 n1 k1 d), noRow, (rwH0 X0.heap.size)]) (r := noRow) (r' := (rwB X108.heap.size)) rfl (one_new (w := X108) (.cells #[.int .i64 0, .int .i64 0, .slice none 0 0, .slice none 0 0, .slice none 0 0, .slice none 0 0] 38)) (box_row X108) (Nat.le_refl _) hcur.size
          have hbx : W.heap.size ≤ X108.heap.size := hcur.size
          have hcur := below_after_of hcur (one_new (w := X108) (.cells #[.int .i64 0, .int .i64 0, .slice none 0 0, .slice none 0 0, .slice none 0 0, .slice none 0 0] 38))
          refine hK.out _ _ (after_mk hcur) (fun hHeld => ?_)
          clear hK K
          try simp only [Act.put, List.setIfInBounds_toArray, List.set_cons_zero, List.set_cons_succ]
          generalize hY : World.alloc X108 (.cells #[.int .i64 0, .int .i64 0, .slice none 0 0, .slice none 0 0, .slice none 0 0, .slice none 0 0] 38) = X118 at *
          clear hY
          refine wpAnyH_ready (rs := [7]) (by kernel_rfl) (by simp) ?_
          refine AllReadyH.cons rfl (fun K hK => ?_) AllReadyH.nil
          go_simp
          have OX := OX.put (A := [(rwB X108.heap.size), (rwD z1 n1 k1 d)]) (B := [(rwH0 X0.heap.size)]) (r := noRow) (r' := (rwN0 X118.heap.size)) rfl (one_new (w := X118) (.cells #[] 57)) (none_cpSl X118) (Nat.le_refl _) hcur.size
          have hg7 : W.heap.size ≤ X118.heap.size := hcur.size
          have hcur := below_after_of hcur (one_new (w := X118) (.cells #[] 57))
          refine hK.out _ _ (after_mk hcur) (fun hHeld => ?_)
          clear hK K
          try simp only [Act.put, List.setIfInBounds_toArray, List.set_cons_zero, List.set_cons_succ]
          generalize hY : World.alloc X118 (.cells #[] 57) = X119 at *
          clear hY
          refine wpAnyH_ready (rs := [10]) (by kernel_rfl) (by simp) ?_
          refine AllReadyH.cons rfl (fun K hK => ?_) AllReadyH.nil
          rw [if_pos (by rfl)]
          refine wp_cpSl _ _ rfl W.heap.size X118.heap.size n2 c2 a2 n HN2.out (by rfl) (OX.own _ (List.mem_append_right [(rwB X108.heap.size), (rwD z1 n1 k1 d)] (List.Mem.head _))) (by rfl) ((HRD.out _ hcur).2.1) HAC.out.2.1 hx2 hcur.size ?_
          intro z2 k2 X120 o2 gr2 hb2
          have OX := OX.laid (A := [(rwB X108.heap.size), (rwD z1 n1 k1 d)]) (B := [(rwH0 X0.heap.size)]) (r := (rwN0 X118.heap.size)) (r' := (rwN z2 n2 k2 n)) rfl gr2 o2 hb2 (Nat.le_refl _)
          have hcur := hcur.grown gr2 hcur.size (fun j e => by cases e; exact hg7)
          clear o2 gr2 hb2
          refine hK.out _ _ (after_mk hcur) (fun hHeld => ?_)
          clear hK K
          try simp only [Act.put, List.setIfInBounds_toArray]
          refine wpAnyH_ready (rs := [14]) (by kernel_rfl) (by simp) ?_
          refine AllReadyH.cons rfl (fun K hK => ?_) AllReadyH.nil
          rw [if_pos (by rfl)]
          refine wp_cpHd _ _ rfl W.heap.size X0.heap.size n3 c3 a3 h HN3.out (by rfl) (OX.own _ (List.mem_append_right [(rwB X108.heap.size), (rwD z1 n1 k1 d), (rwN z2 n2 k2 n)] (List.Mem.head _))) (by rfl) ((HRD.out _ hcur).2.2) HAC.out.2.2 hx3 hcur.size ?_
          intro z3 k3 X121 o2 gr2 hb2
          have OX := OX.laid (A := [(rwB X108.heap.size), (rwD z1 n1 k1 d), (rwN z2 n2 k2 n)]) (B := []) (r := (rwH0 X0.heap.size)) (r' := (rwH z3 n3 k3 h)) rfl gr2 o2 hb2 (Nat.le_refl _)
          have hcur := hcur.grown gr2 hcur.size (fun j e => by cases e; exact hg11)
          clear o2 gr2 hb2
          refine hK.out _ _ (after_mk hcur) (fun hHeld => ?_)
          clear hK K
          try simp only [Act.put]
          refine h_take (i := 15) (d := some 20) (v := ?vc44) (by rfl) (by kernel_rfl) (by kernel_rfl) (by kernel_rfl) (fun _ _ _ h => by obtain ⟨_, _, _, _, _, _, _, _, _, h0, _⟩ := h; cases h0) (by rfl) ?hyc44 hHeld ?restc44
          case hyc44 =>
            intro o ho
            simp only [List.getElem?_toArray, List.getElem?_cons_succ, List.getElem?_cons_zero, Option.some.injEq] at ho
            subst ho
            rintro _ ⟨nw, rfl⟩
            first | (go_simp; done) | (go_simp; with_reducible rfl)
          try simp only [Act.put]
          obtain ⟨e0, e1, e2, e3, e4, e5, f0, f1, f2, f3, f4, f5⟩ := box6_all OX
          refine wpAnyH_ready (rs := [17]) (by kernel_rfl) (by simp) ?_
          refine AllReadyH.cons rfl (fun K hK => ?_) AllReadyH.nil
          have OX := own_box6 OX (.int .i64 ph) (.int .i64 cu) (.slice z1 n1 k1) (.slice z2 n2 k2) (.slice z3 n3 k3) (.slice none 0 0)
          have hcur := below_box6 hcur hbx (.int .i64 ph) (.int .i64 cu) (.slice z1 n1 k1) (.slice z2 n2 k2) (.slice z3 n3 k3) (.slice none 0 0)
          go_simp
          refine hK.out _ _ (after_mk hcur) (fun hHeld => ?_)
          clear hK K
          try simp only [Act.put, List.setIfInBounds_toArray, List.set_cons_zero, List.set_cons_succ]
          refine wpAnyH_done (by kernel_rfl) ?_ _
          exact ⟨X108.heap.size, z1, k1, z2, k2, z3, k3, X118.heap.size, X0.heap.size, rfl, rfl, hcur, OX⟩
      · go_simp
        have OX := OX.put (A := [noRow, noRow]) (B := [(rwH0 X0.heap.size)]) (r := noRow) (r' := (rwN0 X107.heap.size)) rfl (one_new (w := X107) (.cells #[] 57)) (none_cpSl X107) (Nat.le_refl _) hcur.size
        have hg7 : W.heap.size ≤ X107.heap.size := hcur.size
        have hcur := below_after_of hcur (one_new (w := X107) (.cells #[] 57))
        refine hK.out _ _ (after_mk hcur) (fun hHeld => ?_)
        clear hK K
        try simp only [Act.put, List.setIfInBounds_toArray, List.set_cons_zero, List.set_cons_succ]
        generalize hY : World.alloc X107 (.cells #[] 57) = X122 at *
        clear hY
        refine wpAnyH_ready (rs := [6, 16]) (by kernel_rfl) (by simp) ?_
        refine AllReadyH.cons rfl (fun K hK => ?_) (AllReadyH.cons rfl (fun K hK => ?_) AllReadyH.nil)
        · go_simp
          refine (l9Copy_any a1 n1 c1 d X122 HN1.out ((HRD.out _ hcur).1) HAC.out.1 hx1).mono ?_
          rintro e X123 ⟨z1, k1, rfl, hb, o1⟩
          have OX := OX.put (A := [noRow]) (B := [(rwN0 X107.heap.size), (rwH0 X0.heap.size)]) (r := noRow) (r' := (rwD z1 n1 k1 d)) rfl hb o1 (Nat.le_refl _) hcur.size
          have hcur := below_after_of hcur hb
          clear hb o1
          refine hK.out _ _ (after_mk hcur) (fun hHeld => ?_)
          clear hK K
          try simp only [Act.put, List.setIfInBounds_toArray, List.set_cons_zero, List.set_cons_succ]
          refine wpAnyH_ready (rs := [10, 16]) (by kernel_rfl) (by simp) ?_
          refine AllReadyH.cons rfl (fun K hK => ?_) (AllReadyH.cons rfl (fun K hK => ?_) AllReadyH.nil)
          · rw [if_pos (by rfl)]
            refine wp_cpSl _ _ rfl W.heap.size X107.heap.size n2 c2 a2 n HN2.out (by rfl) (OX.own _ (List.mem_append_right [noRow, (rwD z1 n1 k1 d)] (List.Mem.head _))) (by rfl) ((HRD.out _ hcur).2.1) HAC.out.2.1 hx2 hcur.size ?_
            intro z2 k2 X124 o2 gr2 hb2
            have OX := OX.laid (A := [noRow, (rwD z1 n1 k1 d)]) (B := [(rwH0 X0.heap.size)]) (r := (rwN0 X107.heap.size)) (r' := (rwN z2 n2 k2 n)) rfl gr2 o2 hb2 (Nat.le_refl _)
            have hcur := hcur.grown gr2 hcur.size (fun j e => by cases e; exact hg7)
            clear o2 gr2 hb2
            refine hK.out _ _ (after_mk hcur) (fun hHeld => ?_)
            clear hK K
            try simp only [Act.put, List.setIfInBounds_toArray]
            refine wpAnyH_ready (rs := [14, 16]) (by kernel_rfl) (by simp) ?_
            refine AllReadyH.cons rfl (fun K hK => ?_) (AllReadyH.cons rfl (fun K hK => ?_) AllReadyH.nil)
            · rw [if_pos (by rfl)]
              refine wp_cpHd _ _ rfl W.heap.size X0.heap.size n3 c3 a3 h HN3.out (by rfl) (OX.own _ (List.mem_append_right [noRow, (rwD z1 n1 k1 d), (rwN z2 n2 k2 n)] (List.Mem.head _))) (by rfl) ((HRD.out _ hcur).2.2) HAC.out.2.2 hx3 hcur.size ?_
              intro z3 k3 X125 o2 gr2 hb2
              have OX := OX.laid (A := [noRow, (rwD z1 n1 k1 d), (rwN z2 n2 k2 n)]) (B := []) (r := (rwH0 X0.heap.size)) (r' := (rwH z3 n3 k3 h)) rfl gr2 o2 hb2 (Nat.le_refl _)
              have hcur := hcur.grown gr2 hcur.size (fun j e => by cases e; exact hg11)
              clear o2 gr2 hb2
              refine hK.out _ _ (after_mk hcur) (fun hHeld => ?_)
              clear hK K
              try simp only [Act.put]
              refine h_take (i := 15) (d := some 20) (v := ?vc45) (by rfl) (by kernel_rfl) (by kernel_rfl) (by kernel_rfl) (fun _ _ _ h => by obtain ⟨_, _, _, _, _, _, _, _, _, h0, _⟩ := h; cases h0) (by rfl) ?hyc45 hHeld ?restc45
              case hyc45 =>
                intro o ho
                simp only [List.getElem?_toArray, List.getElem?_cons_succ, List.getElem?_cons_zero, Option.some.injEq] at ho
                subst ho
                rintro _ ⟨nw, rfl⟩
                first | (go_simp; done) | (go_simp; with_reducible rfl)
              try simp only [Act.put]
              refine wpAnyH_ready (rs := [16]) (by kernel_rfl) (by simp) ?_
              refine AllReadyH.cons rfl (fun K hK => ?_) AllReadyH.nil
              go_simp
              have OX := OX.put (A := []) (B := [(rwD z1 n1 k1 d), (rwN z2 n2 k2 n), (rwH z3 n3 k3 h)]) (r := noRow) (r' := (rwB X125.heap.size)) rfl (one_new (w := X125) (.cells #[.int .i64 0, .int .i64 0, .slice none 0 0, .slice none 0 0, .slice none 0 0, .slice none 0 0] 38)) (box_row X125) (Nat.le_refl _) hcur.size
              have hbx : W.heap.size ≤ X125.heap.size := hcur.size
              have hcur := below_after_of hcur (one_new (w := X125) (.cells #[.int .i64 0, .int .i64 0, .slice none 0 0, .slice none 0 0, .slice none 0 0, .slice none 0 0] 38))
              refine hK.out _ _ (after_mk hcur) (fun hHeld => ?_)
              clear hK K
              try simp only [Act.put, List.setIfInBounds_toArray, List.set_cons_zero, List.set_cons_succ]
              generalize hY : World.alloc X125 (.cells #[.int .i64 0, .int .i64 0, .slice none 0 0, .slice none 0 0, .slice none 0 0, .slice none 0 0] 38) = X126 at *
              clear hY
              obtain ⟨e0, e1, e2, e3, e4, e5, f0, f1, f2, f3, f4, f5⟩ := box6_all OX
              refine wpAnyH_ready (rs := [17]) (by kernel_rfl) (by simp) ?_
              refine AllReadyH.cons rfl (fun K hK => ?_) AllReadyH.nil
              have OX := own_box6 OX (.int .i64 ph) (.int .i64 cu) (.slice z1 n1 k1) (.slice z2 n2 k2) (.slice z3 n3 k3) (.slice none 0 0)
              have hcur := below_box6 hcur hbx (.int .i64 ph) (.int .i64 cu) (.slice z1 n1 k1) (.slice z2 n2 k2) (.slice z3 n3 k3) (.slice none 0 0)
              go_simp
              refine hK.out _ _ (after_mk hcur) (fun hHeld => ?_)
              clear hK K
              try simp only [Act.put, List.setIfInBounds_toArray, List.set_cons_zero, List.set_cons_succ]
              refine wpAnyH_done (by kernel_rfl) ?_ _
              exact ⟨X125.heap.size, z1, k1, z2, k2, z3, k3, X107.heap.size, X0.heap.size, rfl, rfl, hcur, OX⟩
            · go_simp
              have OX := OX.put (A := []) (B := [(rwD z1 n1 k1 d), (rwN z2 n2 k2 n), (rwH0 X0.heap.size)]) (r := noRow) (r' := (rwB X124.heap.size)) rfl (one_new (w := X124) (.cells #[.int .i64 0, .int .i64 0, .slice none 0 0, .slice none 0 0, .slice none 0 0, .slice none 0 0] 38)) (box_row X124) (Nat.le_refl _) hcur.size
              have hbx : W.heap.size ≤ X124.heap.size := hcur.size
              have hcur := below_after_of hcur (one_new (w := X124) (.cells #[.int .i64 0, .int .i64 0, .slice none 0 0, .slice none 0 0, .slice none 0 0, .slice none 0 0] 38))
              refine hK.out _ _ (after_mk hcur) (fun hHeld => ?_)
              clear hK K
              try simp only [Act.put, List.setIfInBounds_toArray, List.set_cons_zero, List.set_cons_succ]
              generalize hY : World.alloc X124 (.cells #[.int .i64 0, .int .i64 0, .slice none 0 0, .slice none 0 0, .slice none 0 0, .slice none 0 0] 38) = X127 at *
              clear hY
              refine wpAnyH_ready (rs := [14]) (by kernel_rfl) (by simp) ?_
              refine AllReadyH.cons rfl (fun K hK => ?_) AllReadyH.nil
              rw [if_pos (by rfl)]
              refine wp_cpHd _ _ rfl W.heap.size X0.heap.size n3 c3 a3 h HN3.out (by rfl) (OX.own _ (List.mem_append_right [(rwB X124.heap.size), (rwD z1 n1 k1 d), (rwN z2 n2 k2 n)] (List.Mem.head _))) (by rfl) ((HRD.out _ hcur).2.2) HAC.out.2.2 hx3 hcur.size ?_
              intro z3 k3 X128 o2 gr2 hb2
              have OX := OX.laid (A := [(rwB X124.heap.size), (rwD z1 n1 k1 d), (rwN z2 n2 k2 n)]) (B := []) (r := (rwH0 X0.heap.size)) (r' := (rwH z3 n3 k3 h)) rfl gr2 o2 hb2 (Nat.le_refl _)
              have hcur := hcur.grown gr2 hcur.size (fun j e => by cases e; exact hg11)
              clear o2 gr2 hb2
              refine hK.out _ _ (after_mk hcur) (fun hHeld => ?_)
              clear hK K
              try simp only [Act.put, List.setIfInBounds_toArray]
              refine h_take (i := 15) (d := some 20) (v := ?vc46) (by rfl) (by kernel_rfl) (by kernel_rfl) (by kernel_rfl) (fun _ _ _ h => by obtain ⟨_, _, _, _, _, _, _, _, _, h0, _⟩ := h; cases h0) (by rfl) ?hyc46 hHeld ?restc46
              case hyc46 =>
                intro o ho
                simp only [List.getElem?_toArray, List.getElem?_cons_succ, List.getElem?_cons_zero, Option.some.injEq] at ho
                subst ho
                rintro _ ⟨nw, rfl⟩
                first | (go_simp; done) | (go_simp; with_reducible rfl)
              try simp only [Act.put]
              obtain ⟨e0, e1, e2, e3, e4, e5, f0, f1, f2, f3, f4, f5⟩ := box6_all OX
              refine wpAnyH_ready (rs := [17]) (by kernel_rfl) (by simp) ?_
              refine AllReadyH.cons rfl (fun K hK => ?_) AllReadyH.nil
              have OX := own_box6 OX (.int .i64 ph) (.int .i64 cu) (.slice z1 n1 k1) (.slice z2 n2 k2) (.slice z3 n3 k3) (.slice none 0 0)
              have hcur := below_box6 hcur hbx (.int .i64 ph) (.int .i64 cu) (.slice z1 n1 k1) (.slice z2 n2 k2) (.slice z3 n3 k3) (.slice none 0 0)
              go_simp
              refine hK.out _ _ (after_mk hcur) (fun hHeld => ?_)
              clear hK K
              try simp only [Act.put, List.setIfInBounds_toArray, List.set_cons_zero, List.set_cons_succ]
              refine wpAnyH_done (by kernel_rfl) ?_ _
              exact ⟨X124.heap.size, z1, k1, z2, k2, z3, k3, X107.heap.size, X0.heap.size, rfl, rfl, hcur, OX⟩
          · go_simp
            have OX := OX.put (A := []) (B := [(rwD z1 n1 k1 d), (rwN0 X107.heap.size), (rwH0 X0.heap.size)]) (r := noRow) (r' := (rwB X123.heap.size)) rfl (one_new (w := X123) (.cells #[.int .i64 0, .int .i64 0, .slice none 0 0, .slice none 0 0, .slice none 0 0, .slice none 0 0] 38)) (box_row X123) (Nat.le_refl _) hcur.size
            have hbx : W.heap.size ≤ X123.heap.size := hcur.size
            have hcur := below_after_of hcur (one_new (w := X123) (.cells #[.int .i64 0, .int .i64 0, .slice none 0 0, .slice none 0 0, .slice none 0 0, .slice none 0 0] 38))
            refine hK.out _ _ (after_mk hcur) (fun hHeld => ?_)
            clear hK K
            try simp only [Act.put, List.setIfInBounds_toArray, List.set_cons_zero, List.set_cons_succ]
            generalize hY : World.alloc X123 (.cells #[.int .i64 0, .int .i64 0, .slice none 0 0, .slice none 0 0, .slice none 0 0, .slice none 0 0] 38) = X129 at *
            clear hY
            refine wpAnyH_ready (rs := [10]) (by kernel_rfl) (by simp) ?_
            refine AllReadyH.cons rfl (fun K hK => ?_) AllReadyH.nil
            rw [if_pos (by rfl)]
            refine wp_cpSl _ _ rfl W.heap.size X107.heap.size n2 c2 a2 n HN2.out (by rfl) (OX.own _ (List.mem_append_right [(rwB X123.heap.size), (rwD z1 n1 k1 d)] (List.Mem.head _))) (by rfl) ((HRD.out _ hcur).2.1) HAC.out.2.1 hx2 hcur.size ?_
            intro z2 k2 X130 o2 gr2 hb2
            have OX := OX.laid (A := [(rwB X123.heap.size), (rwD z1 n1 k1 d)]) (B := [(rwH0 X0.heap.size)]) (r := (rwN0 X107.heap.size)) (r' := (rwN z2 n2 k2 n)) rfl gr2 o2 hb2 (Nat.le_refl _)
            have hcur := hcur.grown gr2 hcur.size (fun j e => by cases e; exact hg7)
            clear o2 gr2 hb2
            refine hK.out _ _ (after_mk hcur) (fun hHeld => ?_)
            clear hK K
            try simp only [Act.put, List.setIfInBounds_toArray]
            refine wpAnyH_ready (rs := [14]) (by kernel_rfl) (by simp) ?_
            refine AllReadyH.cons rfl (fun K hK => ?_) AllReadyH.nil
            rw [if_pos (by rfl)]
            refine wp_cpHd _ _ rfl W.heap.size X0.heap.size n3 c3 a3 h HN3.out (by rfl) (OX.own _ (List.mem_append_right [(rwB X123.heap.size), (rwD z1 n1 k1 d), (rwN z2 n2 k2 n)] (List.Mem.head _))) (by rfl) ((HRD.out _ hcur).2.2) HAC.out.2.2 hx3 hcur.size ?_
            intro z3 k3 X131 o2 gr2 hb2
            have OX := OX.laid (A := [(rwB X123.heap.size), (rwD z1 n1 k1 d), (rwN z2 n2 k2 n)]) (B := []) (r := (rwH0 X0.heap.size)) (r' := (rwH z3 n3 k3 h)) rfl gr2 o2 hb2 (Nat.le_refl _)
            have hcur := hcur.grown gr2 hcur.size (fun j e => by cases e; exact hg11)
            clear o2 gr2 hb2
            refine hK.out _ _ (after_mk hcur) (fun hHeld => ?_)
            clear hK K
            try simp only [Act.put]
            refine h_take (i := 15) (d := some 20) (v := ?vc47) (by rfl) (by kernel_rfl) (by kernel_rfl) (by kernel_rfl) (fun _ _ _ h => by obtain ⟨_, _, _, _, _, _, _, _, _, h0, _⟩ := h; cases h0) (by rfl) ?hyc47 hHeld ?restc47
            case hyc47 =>
              intro o ho
              simp only [List.getElem?_toArray, List.getElem?_cons_succ, List.getElem?_cons_zero, Option.some.injEq] at ho
              subst ho
              rintro _ ⟨nw, rfl⟩
              first | (go_simp; done) | (go_simp; with_reducible rfl)
            try simp only [Act.put]
            obtain ⟨e0, e1, e2, e3, e4, e5, f0, f1, f2, f3, f4, f5⟩ := box6_all OX
            refine wpAnyH_ready (rs := [17]) (by kernel_rfl) (by simp) ?_
            refine AllReadyH.cons rfl (fun K hK => ?_) AllReadyH.nil
            have OX := own_box6 OX (.int .i64 ph) (.int .i64 cu) (.slice z1 n1 k1) (.slice z2 n2 k2) (.slice z3 n3 k3) (.slice none 0 0)
            have hcur := below_box6 hcur hbx (.int .i64 ph) (.int .i64 cu) (.slice z1 n1 k1) (.slice z2 n2 k2) (.slice z3 n3 k3) (.slice none 0 0)
            go_simp
            refine hK.out _ _ (after_mk hcur) (fun hHeld => ?_)
            clear hK K
            try simp only [Act.put, List.setIfInBounds_toArray, List.set_cons_zero, List.set_cons_succ]
            refine wpAnyH_done (by kernel_rfl) ?_ _
            exact ⟨X123.heap.size, z1, k1, z2, k2, z3, k3, X107.heap.size, X0.heap.size, rfl, rfl, hcur, OX⟩
        · go_simp
          have OX := OX.put (A := []) (B := [noRow, (rwN0 X107.heap.size), (rwH0 X0.heap.size)]) (r := noRow) (r' := (rwB X122.heap.size)) rfl (one_new (w := X122) (.cells #[.int .i64 0, .int .i64 0, .slice none 0 0, .slice none 0 0, .slice none 0 0, .slice none 0 0] 38)) (box_row X122) (Nat.le_refl _) hcur.size
          have hbx : W.heap.size ≤ X122.heap.size := hcur.size
          have hcur := below_after_of hcur (one_new (w := X122) (.cells #[.int .i64 0, .int .i64 0, .slice none 0 0, .slice none 0 0, .slice none 0 0, .slice none 0 0] 38))
          refine hK.out _ _ (after_mk hcur) (fun hHeld => ?_)
          clear hK K
          try simp only [Act.put, List.setIfInBounds_toArray, List.set_cons_zero, List.set_cons_succ]
          generalize hY : World.alloc X122 (.cells #[.int .i64 0, .int .i64 0, .slice none 0 0, .slice none 0 0, .slice none 0 0, .slice none 0 0] 38) = X132 at *
          clear hY
          refine wpAnyH_ready (rs := [6]) (by kernel_rfl) (by simp) ?_
          refine AllReadyH.cons rfl (fun K hK => ?_) AllReadyH.nil
          go_simp
          refine (l9Copy_any a1 n1 c1 d X132 HN1.out ((HRD.out _ hcur).1) HAC.out.1 hx1).mono ?_
          rintro e X133 ⟨z1, k1, rfl, hb, o1⟩
          have OX := OX.put (A := [(rwB X122.heap.size)]) (B := [(rwN0 X107.heap.size), (rwH0 X0.heap.size)]) (r := noRow) (r' := (rwD z1 n1 k1 d)) rfl hb o1 (Nat.le_refl _) hcur.size
          have hcur := below_after_of hcur hb
          clear hb o1
          refine hK.out _ _ (after_mk hcur) (fun hHeld => ?_)
          clear hK K
          try simp only [Act.put, List.setIfInBounds_toArray, List.set_cons_zero, List.set_cons_succ]
          refine wpAnyH_ready (rs := [10]) (by kernel_rfl) (by simp) ?_
          refine AllReadyH.cons rfl (fun K hK => ?_) AllReadyH.nil
          rw [if_pos (by rfl)]
          refine wp_cpSl _ _ rfl W.heap.size X107.heap.size n2 c2 a2 n HN2.out (by rfl) (OX.own _ (List.mem_append_right [(rwB X122.heap.size), (rwD z1 n1 k1 d)] (List.Mem.head _))) (by rfl) ((HRD.out _ hcur).2.1) HAC.out.2.1 hx2 hcur.size ?_
          intro z2 k2 X134 o2 gr2 hb2
          have OX := OX.laid (A := [(rwB X122.heap.size), (rwD z1 n1 k1 d)]) (B := [(rwH0 X0.heap.size)]) (r := (rwN0 X107.heap.size)) (r' := (rwN z2 n2 k2 n)) rfl gr2 o2 hb2 (Nat.le_refl _)
          have hcur := hcur.grown gr2 hcur.size (fun j e => by cases e; exact hg7)
          clear o2 gr2 hb2
          refine hK.out _ _ (after_mk hcur) (fun hHeld => ?_)
          clear hK K
          try simp only [Act.put, List.setIfInBounds_toArray]
          refine wpAnyH_ready (rs := [14]) (by kernel_rfl) (by simp) ?_
          refine AllReadyH.cons rfl (fun K hK => ?_) AllReadyH.nil
          rw [if_pos (by rfl)]
          refine wp_cpHd _ _ rfl W.heap.size X0.heap.size n3 c3 a3 h HN3.out (by rfl) (OX.own _ (List.mem_append_right [(rwB X122.heap.size), (rwD z1 n1 k1 d), (rwN z2 n2 k2 n)] (List.Mem.head _))) (by rfl) ((HRD.out _ hcur).2.2) HAC.out.2.2 hx3 hcur.size ?_
          intro z3 k3 X135 o2 gr2 hb2
          have OX := OX.laid (A := [(rwB X122.heap.size), (rwD z1 n1 k1 d), (rwN z2 n2 k2 n)]) (B := []) (r := (rwH0 X0.heap.size)) (r' := (rwH z3 n3 k3 h)) rfl gr2 o2 hb2 (Nat.le_refl _)
          have hcur := hcur.grown gr2 hcur.size (fun j e => by cases e; exact hg11)
          clear o2 gr2 hb2
          refine hK.out _ _ (after_mk hcur) (fun hHeld => ?_)
          clear hK K
          try simp only [Act.put]
          refine h_take (i := 15) (d := some 20) (v := ?vc48) (by rfl) (by kernel_rfl) (by kernel_rfl) (by kernel_rfl) (fun _ _ _ h => by obtain ⟨_, _, _, _, _, _, _, _, _, h0, _⟩ := h; cases h0) (by rfl) ?hyc48 hHeld ?restc48
          case hyc48 =>
            intro o ho
            simp only [List.getElem?_toArray, List.getElem?_cons_succ, List.getElem?_cons_zero, Option.some.injEq] at ho
            subst ho
            rintro _ ⟨nw, rfl⟩
            first | (go_simp; done) | (go_simp; with_reducible rfl)
          try simp only [Act.put]
          obtain ⟨e0, e1, e2, e3, e4, e5, f0, f1, f2, f3, f4, f5⟩ := box6_all OX
          refine wpAnyH_ready (rs := [17]) (by kernel_rfl) (by simp) ?_
          refine AllReadyH.cons rfl (fun K hK => ?_) AllReadyH.nil
          have OX := own_box6 OX (.int .i64 ph) (.int .i64 cu) (.slice z1 n1 k1) (.slice z2 n2 k2) (.slice z3 n3 k3) (.slice none 0 0)
          have hcur := below_box6 hcur hbx (.int .i64 ph) (.int .i64 cu) (.slice z1 n1 k1) (.slice z2 n2 k2) (.slice z3 n3 k3) (.slice none 0 0)
          go_simp
          refine hK.out _ _ (after_mk hcur) (fun hHeld => ?_)
          clear hK K
          try simp only [Act.put, List.setIfInBounds_toArray, List.set_cons_zero, List.set_cons_succ]
          refine wpAnyH_done (by kernel_rfl) ?_ _
          exact ⟨X122.heap.size, z1, k1, z2, k2, z3, k3, X107.heap.size, X0.heap.size, rfl, rfl, hcur, OX⟩
      · go_simp
        have OX := OX.put (A := []) (B := [noRow, noRow, (rwH0 X0.heap.size)]) (r := noRow) (r' := (rwB X107.heap.size)) rfl (one_new (w := X107) (.cells #[.int .i64 0, .int .i64 0, .slice none 0 0, .slice none 0 0, .slice none 0 0, .slice none 0 0] 38)) (box_row X107) (Nat.le_refl _) hcur.size
        have hbx : W.heap.size ≤ X107.heap.size := hcur.size
        have hcur := below_after_of hcur (one_new (w := X107) (.cells #[.int .i64 0, .int .i64 0, .slice none 0 0, .slice none 0 0, .slice none 0 0, .slice none 0 0] 38))
        refine hK.out _ _ (after_mk hcur) (fun hHeld => ?_)
        clear hK K
        try simp only [Act.put, List.setIfInBounds_toArray, List.set_cons_zero, List.set_cons_succ]
        generalize hY : World.alloc X107 (.cells #[.int .i64 0, .int .i64 0, .slice none 0 0, .slice none 0 0, .slice none 0 0, .slice none 0 0] 38) = X136 at *
        clear hY
        refine wpAnyH_ready (rs := [6, 7]) (by kernel_rfl) (by simp) ?_
        refine AllReadyH.cons rfl (fun K hK => ?_) (AllReadyH.cons rfl (fun K hK => ?_) AllReadyH.nil)
        · go_simp
          refine (l9Copy_any a1 n1 c1 d X136 HN1.out ((HRD.out _ hcur).1) HAC.out.1 hx1).mono ?_
          rintro e X137 ⟨z1, k1, rfl, hb, o1⟩
          have OX := OX.put (A := [(rwB X107.heap.size)]) (B := [noRow, (rwH0 X0.heap.size)]) (r := noRow) (r' := (rwD z1 n1 k1 d)) rfl hb o1 (Nat.le_refl _) hcur.size
          have hcur := below_after_of hcur hb
          clear hb o1
          refine hK.out _ _ (after_mk hcur) (fun hHeld => ?_)
          clear hK K
          try simp only [Act.put, List.setIfInBounds_toArray, List.set_cons_zero, List.set_cons_succ]
          refine wpAnyH_ready (rs := [7]) (by kernel_rfl) (by simp) ?_
          refine AllReadyH.cons rfl (fun K hK => ?_) AllReadyH.nil
          go_simp
          have OX := OX.put (A := [(rwB X107.heap.size), (rwD z1 n1 k1 d)]) (B := [(rwH0 X0.heap.size)]) (r := noRow) (r' := (rwN0 X137.heap.size)) rfl (one_new (w := X137) (.cells #[] 57)) (none_cpSl X137) (Nat.le_refl _) hcur.size
          have hg7 : W.heap.size ≤ X137.heap.size := hcur.size
          have hcur := below_after_of hcur (one_new (w := X137) (.cells #[] 57))
          refine hK.out _ _ (after_mk hcur) (fun hHeld => ?_)
          clear hK K
          try simp only [Act.put, List.setIfInBounds_toArray, List.set_cons_zero, List.set_cons_succ]
          generalize hY : World.alloc X137 (.cells #[] 57) = X138 at *
          clear hY
          refine wpAnyH_ready (rs := [10]) (by kernel_rfl) (by simp) ?_
          refine AllReadyH.cons rfl (fun K hK => ?_) AllReadyH.nil
          rw [if_pos (by rfl)]
          refine wp_cpSl _ _ rfl W.heap.size X137.heap.size n2 c2 a2 n HN2.out (by rfl) (OX.own _ (List.mem_append_right [(rwB X107.heap.size), (rwD z1 n1 k1 d)] (List.Mem.head _))) (by rfl) ((HRD.out _ hcur).2.1) HAC.out.2.1 hx2 hcur.size ?_
          intro z2 k2 X139 o2 gr2 hb2
          have OX := OX.laid (A := [(rwB X107.heap.size), (rwD z1 n1 k1 d)]) (B := [(rwH0 X0.heap.size)]) (r := (rwN0 X137.heap.size)) (r' := (rwN z2 n2 k2 n)) rfl gr2 o2 hb2 (Nat.le_refl _)
          have hcur := hcur.grown gr2 hcur.size (fun j e => by cases e; exact hg7)
          clear o2 gr2 hb2
          refine hK.out _ _ (after_mk hcur) (fun hHeld => ?_)
          clear hK K
          try simp only [Act.put, List.setIfInBounds_toArray]
          refine wpAnyH_ready (rs := [14]) (by kernel_rfl) (by simp) ?_
          refine AllReadyH.cons rfl (fun K hK => ?_) AllReadyH.nil
          rw [if_pos (by rfl)]
          refine wp_cpHd _ _ rfl W.heap.size X0.heap.size n3 c3 a3 h HN3.out (by rfl) (OX.own _ (List.mem_append_right [(rwB X107.heap.size), (rwD z1 n1 k1 d), (rwN z2 n2 k2 n)] (List.Mem.head _))) (by rfl) ((HRD.out _ hcur).2.2) HAC.out.2.2 hx3 hcur.size ?_
          intro z3 k3 X140 o2 gr2 hb2
          have OX := OX.laid (A := [(rwB X107.heap.size), (rwD z1 n1 k1 d), (rwN z2 n2 k2 n)]) (B := []) (r := (rwH0 X0.heap.size)) (r' := (rwH z3 n3 k3 h)) rfl gr2 o2 hb2 (Nat.le_refl _)
          have hcur := hcur.grown gr2 hcur.size (fun j e => by cases e; exact hg11)
          clear o2 gr2 hb2
          refine hK.out _ _ (after_mk hcur) (fun hHeld => ?_)
          clear hK K
          try simp only [Act.put]
          refine h_take (i := 15) (d := some 20) (v := ?vc49) (by rfl) (by kernel_rfl) (by kernel_rfl) (by kernel_rfl) (fun _ _ _ h => by obtain ⟨_, _, _, _, _, _, _, _, _, h0, _⟩ := h; cases h0) (by rfl) ?hyc49 hHeld ?restc49
          case hyc49 =>
            intro o ho
            simp only [List.getElem?_toArray, List.getElem?_cons_succ, List.getElem?_cons_zero, Option.some.injEq] at ho
            subst ho
            rintro _ ⟨nw, rfl⟩
            first | (go_simp; done) | (go_simp; with_reducible rfl)
          try simp only [Act.put]
          obtain ⟨e0, e1, e2, e3, e4, e5, f0, f1, f2, f3, f4, f5⟩ := box6_all OX
          refine wpAnyH_ready (rs := [17]) (by kernel_rfl) (by simp) ?_
          refine AllReadyH.cons rfl (fun K hK => ?_) AllReadyH.nil
          have OX := own_box6 OX (.int .i64 ph) (.int .i64 cu) (.slice z1 n1 k1) (.slice z2 n2 k2) (.slice z3 n3 k3) (.slice none 0 0)
          have hcur := below_box6 hcur hbx (.int .i64 ph) (.int .i64 cu) (.slice z1 n1 k1) (.slice z2 n2 k2) (.slice z3 n3 k3) (.slice none 0 0)
          go_simp
          refine hK.out _ _ (after_mk hcur) (fun hHeld => ?_)
          clear hK K
          try simp only [Act.put, List.setIfInBounds_toArray, List.set_cons_zero, List.set_cons_succ]
          refine wpAnyH_done (by kernel_rfl) ?_ _
          exact ⟨X107.heap.size, z1, k1, z2, k2, z3, k3, X137.heap.size, X0.heap.size, rfl, rfl, hcur, OX⟩
        · go_simp
          have OX := OX.put (A := [(rwB X107.heap.size), noRow]) (B := [(rwH0 X0.heap.size)]) (r := noRow) (r' := (rwN0 X136.heap.size)) rfl (one_new (w := X136) (.cells #[] 57)) (none_cpSl X136) (Nat.le_refl _) hcur.size
          have hg7 : W.heap.size ≤ X136.heap.size := hcur.size
          have hcur := below_after_of hcur (one_new (w := X136) (.cells #[] 57))
          refine hK.out _ _ (after_mk hcur) (fun hHeld => ?_)
          clear hK K
          try simp only [Act.put, List.setIfInBounds_toArray, List.set_cons_zero, List.set_cons_succ]
          generalize hY : World.alloc X136 (.cells #[] 57) = X141 at *
          clear hY
          refine wpAnyH_ready (rs := [6]) (by kernel_rfl) (by simp) ?_
          refine AllReadyH.cons rfl (fun K hK => ?_) AllReadyH.nil
          go_simp
          refine (l9Copy_any a1 n1 c1 d X141 HN1.out ((HRD.out _ hcur).1) HAC.out.1 hx1).mono ?_
          rintro e X142 ⟨z1, k1, rfl, hb, o1⟩
          have OX := OX.put (A := [(rwB X107.heap.size)]) (B := [(rwN0 X136.heap.size), (rwH0 X0.heap.size)]) (r := noRow) (r' := (rwD z1 n1 k1 d)) rfl hb o1 (Nat.le_refl _) hcur.size
          have hcur := below_after_of hcur hb
          clear hb o1
          refine hK.out _ _ (after_mk hcur) (fun hHeld => ?_)
          clear hK K
          try simp only [Act.put, List.setIfInBounds_toArray, List.set_cons_zero, List.set_cons_succ]
          refine wpAnyH_ready (rs := [10]) (by kernel_rfl) (by simp) ?_
          refine AllReadyH.cons rfl (fun K hK => ?_) AllReadyH.nil
          rw [if_pos (by rfl)]
          refine wp_cpSl _ _ rfl W.heap.size X136.heap.size n2 c2 a2 n HN2.out (by rfl) (OX.own _ (List.mem_append_right [(rwB X107.heap.size), (rwD z1 n1 k1 d)] (List.Mem.head _))) (by rfl) ((HRD.out _ hcur).2.1) HAC.out.2.1 hx2 hcur.size ?_
          intro z2 k2 X143 o2 gr2 hb2
          have OX := OX.laid (A := [(rwB X107.heap.size), (rwD z1 n1 k1 d)]) (B := [(rwH0 X0.heap.size)]) (r := (rwN0 X136.heap.size)) (r' := (rwN z2 n2 k2 n)) rfl gr2 o2 hb2 (Nat.le_refl _)
          have hcur := hcur.grown gr2 hcur.size (fun j e => by cases e; exact hg7)
          clear o2 gr2 hb2
          refine hK.out _ _ (after_mk hcur) (fun hHeld => ?_)
          clear hK K
          try simp only [Act.put, List.setIfInBounds_toArray]
          refine wpAnyH_ready (rs := [14]) (by kernel_rfl) (by simp) ?_
          refine AllReadyH.cons rfl (fun K hK => ?_) AllReadyH.nil
          rw [if_pos (by rfl)]
          refine wp_cpHd _ _ rfl W.heap.size X0.heap.size n3 c3 a3 h HN3.out (by rfl) (OX.own _ (List.mem_append_right [(rwB X107.heap.size), (rwD z1 n1 k1 d), (rwN z2 n2 k2 n)] (List.Mem.head _))) (by rfl) ((HRD.out _ hcur).2.2) HAC.out.2.2 hx3 hcur.size ?_
          intro z3 k3 X144 o2 gr2 hb2
          have OX := OX.laid (A := [(rwB X107.heap.size), (rwD z1 n1 k1 d), (rwN z2 n2 k2 n)]) (B := []) (r := (rwH0 X0.heap.size)) (r' := (rwH z3 n3 k3 h)) rfl gr2 o2 hb2 (Nat.le_refl _)
          have hcur := hcur.grown gr2 hcur.size (fun j e => by cases e; exact hg11)
          clear o2 gr2 hb2
          refine hK.out _ _ (after_mk hcur) (fun hHeld => ?_)
          clear hK K
          try simp only [Act.put]
          refine h_take (i := 15) (d := some 20) (v := ?vc50) (by rfl) (by kernel_rfl) (by kernel_rfl) (by kernel_rfl) (fun _ _ _ h => by obtain ⟨_, _, _, _, _, _, _, _, _, h0, _⟩ := h; cases h0) (by rfl) ?hyc50 hHeld ?restc50
          case hyc50 =>
            intro o ho
            simp only [List.getElem?_toArray, List.getElem?_cons_succ, List.getElem?_cons_zero, Option.some.injEq] at ho
            subst ho
            rintro _ ⟨nw, rfl⟩
            first | (go_simp; done) | (go_simp; with_reducible rfl)
          try simp only [Act.put]
          obtain ⟨e0, e1, e2, e3, e4, e5, f0, f1, f2, f3, f4, f5⟩ := box6_all OX
          refine wpAnyH_ready (rs := [17]) (by kernel_rfl) (by simp) ?_
          refine AllReadyH.cons rfl (fun K hK => ?_) AllReadyH.nil
          have OX := own_box6 OX (.int .i64 ph) (.int .i64 cu) (.slice z1 n1 k1) (.slice z2 n2 k2) (.slice z3 n3 k3) (.slice none 0 0)
          have hcur := below_box6 hcur hbx (.int .i64 ph) (.int .i64 cu) (.slice z1 n1 k1) (.slice z2 n2 k2) (.slice z3 n3 k3) (.slice none 0 0)
          go_simp
          refine hK.out _ _ (after_mk hcur) (fun hHeld => ?_)
          clear hK K
          try simp only [Act.put, List.setIfInBounds_toArray, List.set_cons_zero, List.set_cons_succ]
          refine wpAnyH_done (by kernel_rfl) ?_ _
          exact ⟨X107.heap.size, z1, k1, z2, k2, z3, k3, X136.heap.size, X0.heap.size, rfl, rfl, hcur, OX⟩
    · go_simp
      have OX := OX.put (A := []) (B := [noRow, noRow, noRow]) (r := noRow) (r' := (rwB X0.heap.size)) rfl (one_new (w := X0) (.cells #[.int .i64 0, .int .i64 0, .slice none 0 0, .slice none 0 0, .slice none 0 0, .slice none 0 0] 38)) (box_row X0) (Nat.le_refl _) hcur.size
      have hbx : W.heap.size ≤ X0.heap.size := hcur.size
      have hcur := below_after_of hcur (one_new (w := X0) (.cells #[.int .i64 0, .int .i64 0, .slice none 0 0, .slice none 0 0, .slice none 0 0, .slice none 0 0] 38))
      refine hK.out _ _ (after_mk hcur) (fun hHeld => ?_)
      clear hK K
      try simp only [Act.put, List.setIfInBounds_toArray, List.set_cons_zero, List.set_cons_succ]
      generalize hY : World.alloc X0 (.cells #[.int .i64 0, .int .i64 0, .slice none 0 0, .slice none 0 0, .slice none 0 0, .slice none 0 0] 38) = X145 at *
      clear hY
      refine wpAnyH_ready (rs := [6, 7, 11]) (by kernel_rfl) (by simp) ?_
      refine AllReadyH.cons rfl (fun K hK => ?_) (AllReadyH.cons rfl (fun K hK => ?_) (AllReadyH.cons rfl (fun K hK => ?_) AllReadyH.nil))
      · go_simp
        refine (l9Copy_any a1 n1 c1 d X145 HN1.out ((HRD.out _ hcur).1) HAC.out.1 hx1).mono ?_
        rintro e X146 ⟨z1, k1, rfl, hb, o1⟩
        have OX := OX.put (A := [(rwB X0.heap.size)]) (B := [noRow, noRow]) (r := noRow) (r' := (rwD z1 n1 k1 d)) rfl hb o1 (Nat.le_refl _) hcur.size
        have hcur := below_after_of hcur hb
        clear hb o1
        refine hK.out _ _ (after_mk hcur) (fun hHeld => ?_)
        clear hK K
        try simp only [Act.put, List.setIfInBounds_toArray, List.set_cons_zero, List.set_cons_succ]
        refine wpAnyH_ready (rs := [7, 11]) (by kernel_rfl) (by simp) ?_
        refine AllReadyH.cons rfl (fun K hK => ?_) (AllReadyH.cons rfl (fun K hK => ?_) AllReadyH.nil)
        · go_simp
          have OX := OX.put (A := [(rwB X0.heap.size), (rwD z1 n1 k1 d)]) (B := [noRow]) (r := noRow) (r' := (rwN0 X146.heap.size)) rfl (one_new (w := X146) (.cells #[] 57)) (none_cpSl X146) (Nat.le_refl _) hcur.size
          have hg7 : W.heap.size ≤ X146.heap.size := hcur.size
          have hcur := below_after_of hcur (one_new (w := X146) (.cells #[] 57))
          refine hK.out _ _ (after_mk hcur) (fun hHeld => ?_)
          clear hK K
          try simp only [Act.put, List.setIfInBounds_toArray, List.set_cons_zero, List.set_cons_succ]
          generalize hY : World.alloc X146 (.cells #[] 57) = X147 at *
          clear hY
          refine wpAnyH_ready (rs := [10, 11]) (by kernel_rfl) (by simp) ?_
          refine AllReadyH.cons rfl (fun K hK => ?_) (AllReadyH.cons rfl (fun K hK => ?_) AllReadyH.nil)
          · rw [if_pos (by rfl)]
            refine wp_cpSl _ _ rfl W.heap.size X146.heap.size n2 c2 a2 n HN2.out (by rfl) (OX.own _ (List.mem_append_right [(rwB X0.heap.size), (rwD z1 n1 k1 d)] (List.Mem.head _))) (by rfl) ((HRD.out _ hcur).2.1) HAC.out.2.1 hx2 hcur.size ?_
            intro z2 k2 X148 o2 gr2 hb2
            have OX := OX.laid (A := [(rwB X0.heap.size), (rwD z1 n1 k1 d)]) (B := [noRow]) (r := (rwN0 X146.heap.size)) (r' := (rwN z2 n2 k2 n)) rfl gr2 o2 hb2 (Nat.le_refl _)
            have hcur := hcur.grown gr2 hcur.size (fun j e => by cases e; exact hg7)
            clear o2 gr2 hb2
            refine hK.out _ _ (after_mk hcur) (fun hHeld => ?_)
            clear hK K
            try simp only [Act.put, List.setIfInBounds_toArray]
            refine wpAnyH_ready (rs := [11]) (by kernel_rfl) (by simp) ?_
            refine AllReadyH.cons rfl (fun K hK => ?_) AllReadyH.nil
            go_simp
            have OX := OX.put (A := [(rwB X0.heap.size), (rwD z1 n1 k1 d), (rwN z2 n2 k2 n)]) (B := []) (r := noRow) (r' := (rwH0 X148.heap.size)) rfl (one_new (w := X148) (.cells #[] 88)) (none_cpHd X148) (Nat.le_refl _) hcur.size
            have hg11 : W.heap.size ≤ X148.heap.size := hcur.size
            have hcur := below_after_of hcur (one_new (w := X148) (.cells #[] 88))
            refine hK.out _ _ (after_mk hcur) (fun hHeld => ?_)
            clear hK K
            try simp only [Act.put, List.setIfInBounds_toArray, List.set_cons_zero, List.set_cons_succ]
            generalize hY : World.alloc X148 (.cells #[] 88) = X149 at *
            clear hY
            refine wpAnyH_ready (rs := [14]) (by kernel_rfl) (by simp) ?_
            refine AllReadyH.cons rfl (fun K hK => ?_) AllReadyH.nil
            rw [if_pos (by rfl)]
            refine wp_cpHd _ _ rfl W.heap.size X148.heap.size n3 c3 a3 h HN3.out (by rfl) (OX.own _ (List.mem_append_right [(rwB X0.heap.size), (rwD z1 n1 k1 d), (rwN z2 n2 k2 n)] (List.Mem.head _))) (by rfl) ((HRD.out _ hcur).2.2) HAC.out.2.2 hx3 hcur.size ?_
            intro z3 k3 X150 o2 gr2 hb2
            have OX := OX.laid (A := [(rwB X0.heap.size), (rwD z1 n1 k1 d), (rwN z2 n2 k2 n)]) (B := []) (r := (rwH0 X148.heap.size)) (r' := (rwH z3 n3 k3 h)) rfl gr2 o2 hb2 (Nat.le_refl _)
            have hcur := hcur.grown gr2 hcur.size (fun j e => by cases e; exact hg11)
            clear o2 gr2 hb2
            refine hK.out _ _ (after_mk hcur) (fun hHeld => ?_)
            clear hK K
            try simp only [Act.put, List.setIfInBounds_toArray]
            refine h_take (i := 15) (d := some 20) (v := ?vc51) (by rfl) (by kernel_rfl) (by kernel_rfl) (by kernel_rfl) (fun _ _ _ h => by obtain ⟨_, _, _, _, _, _, _, _, _, h0, _⟩ := h; cases h0) (by rfl) ?hyc51 hHeld ?restc51
            case hyc51 =>
              intro o ho
              simp only [List.getElem?_toArray, List.getElem?_cons_succ, List.getElem?_cons_zero, Option.some.injEq] at ho
              subst ho
              rintro _ ⟨nw, rfl⟩
              first | (go_simp; done) | (go_simp; with_reducible rfl)
            try simp only [Act.put]
            obtain ⟨e0, e1, e2, e3, e4, e5, f0, f1, f2, f3, f4, f5⟩ := box6_all OX
            refine wpAnyH_ready (rs := [17]) (by kernel_rfl) (by simp) ?_
            refine AllReadyH.cons rfl (fun K hK => ?_) AllReadyH.nil
            have OX := own_box6 OX (.int .i64 ph) (.int .i64 cu) (.slice z1 n1 k1) (.slice z2 n2 k2) (.slice z3 n3 k3) (.slice none 0 0)
            have hcur := below_box6 hcur hbx (.int .i64 ph) (.int .i64 cu) (.slice z1 n1 k1) (.slice z2 n2 k2) (.slice z3 n3 k3) (.slice none 0 0)
            go_simp
            refine hK.out _ _ (after_mk hcur) (fun hHeld => ?_)
            clear hK K
            try simp only [Act.put, List.setIfInBounds_toArray, List.set_cons_zero, List.set_cons_succ]
            refine wpAnyH_done (by kernel_rfl) ?_ _
            exact ⟨X0.heap.size, z1, k1, z2, k2, z3, k3, X146.heap.size, X148.heap.size, rfl, rfl, hcur, OX⟩
          · go_simp
            have OX := OX.put (A := [(rwB X0.heap.size), (rwD z1 n1 k1 d), (rwN0 X146.heap.size)]) (B := []) (r := noRow) (r' := (rwH0 X147.heap.size)) rfl (one_new (w := X147) (.cells #[] 88)) (none_cpHd X147) (Nat.le_refl _) hcur.size
            have hg11 : W.heap.size ≤ X147.heap.size := hcur.size
            have hcur := below_after_of hcur (one_new (w := X147) (.cells #[] 88))
            refine hK.out _ _ (after_mk hcur) (fun hHeld => ?_)
            clear hK K
            try simp only [Act.put, List.setIfInBounds_toArray, List.set_cons_zero, List.set_cons_succ]
            generalize hY : World.alloc X147 (.cells #[] 88) = X151 at *
            clear hY
            refine wpAnyH_ready (rs := [10]) (by kernel_rfl) (by simp) ?_
            refine AllReadyH.cons rfl (fun K hK => ?_) AllReadyH.nil
            rw [if_pos (by rfl)]
            refine wp_cpSl _ _ rfl W.heap.size X146.heap.size n2 c2 a2 n HN2.out (by rfl) (OX.own _ (List.mem_append_right [(rwB X0.heap.size), (rwD z1 n1 k1 d)] (List.Mem.head _))) (by rfl) ((HRD.out _ hcur).2.1) HAC.out.2.1 hx2 hcur.size ?_
            intro z2 k2 X152 o2 gr2 hb2
            have OX := OX.laid (A := [(rwB X0.heap.size), (rwD z1 n1 k1 d)]) (B := [(rwH0 X147.heap.size)]) (r := (rwN0 X146.heap.size)) (r' := (rwN z2 n2 k2 n)) rfl gr2 o2 hb2 (Nat.le_refl _)
            have hcur := hcur.grown gr2 hcur.size (fun j e => by cases e; exact hg7)
            clear o2 gr2 hb2
            refine hK.out _ _ (after_mk hcur) (fun hHeld => ?_)
            clear hK K
            try simp only [Act.put, List.setIfInBounds_toArray]
            refine wpAnyH_ready (rs := [14]) (by kernel_rfl) (by simp) ?_
            refine AllReadyH.cons rfl (fun K hK => ?_) AllReadyH.nil
            rw [if_pos (by rfl)]
            refine wp_cpHd _ _ rfl W.heap.size X147.heap.size n3 c3 a3 h HN3.out (by rfl) (OX.own _ (List.mem_append_right [(rwB X0.heap.size), (rwD z1 n1 k1 d), (rwN z2 n2 k2 n)] (List.Mem.head _))) (by rfl) ((HRD.out _ hcur).2.2) HAC.out.2.2 hx3 hcur.size ?_
            intro z3 k3 X153 o2 gr2 hb2
            have OX := OX.laid (A := [(rwB X0.heap.size), (rwD z1 n1 k1 d), (rwN z2 n2 k2 n)]) (B := []) (r := (rwH0 X147.heap.size)) (r' := (rwH z3 n3 k3 h)) rfl gr2 o2 hb2 (Nat.le_refl _)
            have hcur := hcur.grown gr2 hcur.size (fun j e => by cases e; exact hg11)
            clear o2 gr2 hb2
            refine hK.out _ _ (after_mk hcur) (fun hHeld => ?_)
            clear hK K
            try simp only [Act.put]
            refine h_take (i := 15) (d := some 20) (v := ?vc52) (by rfl) (by kernel_rfl) (by kernel_rfl) (by kernel_rfl) (fun _ _ _ h => by obtain ⟨_, _, _, _, _, _, _, _, _, h0, _⟩ := h; cases h0) (by rfl) ?hyc52 hHeld ?restc52
            case hyc52 =>
              intro o ho
              simp only [List.getElem?_toArray, List.getElem?_cons_succ, List.getElem?_cons_zero, Option.some.injEq] at ho
              subst ho
              rintro _ ⟨nw, rfl⟩
              first | (go_simp; done) | (go_simp; with_reducible rfl)
            try simp only [Act.put]
            obtain ⟨e0, e1, e2, e3, e4, e5, f0, f1, f2, f3, f4, f5⟩ := box6_all OX
            refine wpAnyH_ready (rs := [17]) (by kernel_rfl) (by simp) ?_
            refine AllReadyH.cons rfl (fun K hK => ?_) AllReadyH.nil
            have OX := own_box6 OX (.int .i64 ph) (.int .i64 cu) (.slice z1 n1 k1) (.slice z2 n2 k2) (.slice z3 n3 k3) (.slice none 0 0)
            have hcur := below_box6 hcur hbx (.int .i64 ph) (.int .i64 cu) (.slice z1 n1 k1) (.slice z2 n2 k2) (.slice z3 n3 k3) (.slice none 0 0)
            go_simp
            refine hK.out _ _ (after_mk hcur) (fun hHeld => ?_)
            clear hK K
            try simp only [Act.put, List.setIfInBounds_toArray, List.set_cons_zero, List.set_cons_succ]
            refine wpAnyH_done (by kernel_rfl) ?_ _
            exact ⟨X0.heap.size, z1, k1, z2, k2, z3, k3, X146.heap.size, X147.heap.size, rfl, rfl, hcur, OX⟩
        · go_simp
          have OX := OX.put (A := [(rwB X0.heap.size), (rwD z1 n1 k1 d), noRow]) (B := []) (r := noRow) (r' := (rwH0 X146.heap.size)) rfl (one_new (w := X146) (.cells #[] 88)) (none_cpHd X146) (Nat.le_refl _) hcur.size
          have hg11 : W.heap.size ≤ X146.heap.size := hcur.size
          have hcur := below_after_of hcur (one_new (w := X146) (.cells #[] 88))
          refine hK.out _ _ (after_mk hcur) (fun hHeld => ?_)
          clear hK K
          try simp only [Act.put, List.setIfInBounds_toArray, List.set_cons_zero, List.set_cons_succ]
          generalize hY : World.alloc X146 (.cells #[] 88) = X154 at *
          clear hY
          refine wpAnyH_ready (rs := [7]) (by kernel_rfl) (by simp) ?_
          refine AllReadyH.cons rfl (fun K hK => ?_) AllReadyH.nil
          go_simp
          have OX := OX.put (A := [(rwB X0.heap.size), (rwD z1 n1 k1 d)]) (B := [(rwH0 X146.heap.size)]) (r := noRow) (r' := (rwN0 X154.heap.size)) rfl (one_new (w := X154) (.cells #[] 57)) (none_cpSl X154) (Nat.le_refl _) hcur.size
          have hg7 : W.heap.size ≤ X154.heap.size := hcur.size
          have hcur := below_after_of hcur (one_new (w := X154) (.cells #[] 57))
          refine hK.out _ _ (after_mk hcur) (fun hHeld => ?_)
          clear hK K
          try simp only [Act.put, List.setIfInBounds_toArray, List.set_cons_zero, List.set_cons_succ]
          generalize hY : World.alloc X154 (.cells #[] 57) = X155 at *
          clear hY
          refine wpAnyH_ready (rs := [10]) (by kernel_rfl) (by simp) ?_
          refine AllReadyH.cons rfl (fun K hK => ?_) AllReadyH.nil
          rw [if_pos (by rfl)]
          refine wp_cpSl _ _ rfl W.heap.size X154.heap.size n2 c2 a2 n HN2.out (by rfl) (OX.own _ (List.mem_append_right [(rwB X0.heap.size), (rwD z1 n1 k1 d)] (List.Mem.head _))) (by rfl) ((HRD.out _ hcur).2.1) HAC.out.2.1 hx2 hcur.size ?_
          intro z2 k2 X156 o2 gr2 hb2
          have OX := OX.laid (A := [(rwB X0.heap.size), (rwD z1 n1 k1 d)]) (B := [(rwH0 X146.heap.size)]) (r := (rwN0 X154.heap.size)) (r' := (rwN z2 n2 k2 n)) rfl gr2 o2 hb2 (Nat.le_refl _)
          have hcur := hcur.grown gr2 hcur.size (fun j e => by cases e; exact hg7)
          clear o2 gr2 hb2
          refine hK.out _ _ (after_mk hcur) (fun hHeld => ?_)
          clear hK K
          try simp only [Act.put, List.setIfInBounds_toArray]
          refine wpAnyH_ready (rs := [14]) (by kernel_rfl) (by simp) ?_
          refine AllReadyH.cons rfl (fun K hK => ?_) AllReadyH.nil
          rw [if_pos (by rfl)]
          refine wp_cpHd _ _ rfl W.heap.size X146.heap.size n3 c3 a3 h HN3.out (by rfl) (OX.own _ (List.mem_append_right [(rwB X0.heap.size), (rwD z1 n1 k1 d), (rwN z2 n2 k2 n)] (List.Mem.head _))) (by rfl) ((HRD.out _ hcur).2.2) HAC.out.2.2 hx3 hcur.size ?_
          intro z3 k3 X157 o2 gr2 hb2
          have OX := OX.laid (A := [(rwB X0.heap.size), (rwD z1 n1 k1 d), (rwN z2 n2 k2 n)]) (B := []) (r := (rwH0 X146.heap.size)) (r' := (rwH z3 n3 k3 h)) rfl gr2 o2 hb2 (Nat.le_refl _)
          have hcur := hcur.grown gr2 hcur.size (fun j e => by cases e; exact hg11)
          clear o2 gr2 hb2
          refine hK.out _ _ (after_mk hcur) (fun hHeld => ?_)
          clear hK K
          try simp only [Act.put]
          refine h_take (i := 15) (d := some 20) (v := ?vc53) (by rfl) (by kernel_rfl) (by kernel_rfl) (by kernel_rfl) (fun _ _ _ h => by obtain ⟨_, _, _, _, _, _, _, _, _, h0, _⟩ := h; cases h0) (by rfl) ?hyc53 hHeld ?restc53
          case hyc53 =>
            intro o ho
            simp only [List.getElem?_toArray, List.getElem?_cons_succ, List.getElem?_cons_zero, Option.some.injEq] at ho
            subst ho
            rintro _ ⟨nw, rfl⟩
            first | (go_simp; done) | (go_simp; with_reducible rfl)
          try simp only [Act.put]
          obtain ⟨e0, e1, e2, e3, e4, e5, f0, f1, f2, f3, f4, f5⟩ := box6_all OX
          refine wpAnyH_ready (rs := [17]) (by kernel_rfl) (by simp) ?_
          refine AllReadyH.cons rfl (fun K hK => ?_) AllReadyH.nil
          have OX := own_box6 OX (.int .i64 ph) (.int .i64 cu) (.slice z1 n1 k1) (.slice z2 n2 k2) (.slice z3 n3 k3) (.slice none 0 0)
          have hcur := below_box6 hcur hbx (.int .i64 ph) (.int .i64 cu) (.slice z1 n1 k1) (.slice z2 n2 k2) (.slice z3 n3 k3) (.slice none 0 0)
          go_simp
          refine hK.out _ _ (after_mk hcur) (fun hHeld => ?_)
          clear hK K
          try simp only [Act.put, List.setIfInBounds_toArray, List.set_cons_zero, List.set_cons_succ]
          refine wpAnyH_done (by kernel_rfl) ?_ _
          exact ⟨X0.heap.size, z1, k1, z2, k2, z3, k3, X154.heap.size, X146.heap.size, rfl, rfl, hcur, OX⟩
      · go_simp
        have OX := OX.put (A := [(rwB X0.heap.size), noRow]) (B := [noRow]) (r := noRow) (r' := (rwN0 X145.heap.size)) rfl (one_new (w := X145) (.cells #[] 57)) (none_cpSl X145) (Nat.le_refl _) hcur.size
        have hg7 : W.heap.size ≤ X145.heap.size := hcur.size
        have hcur := below_after_of hcur (one_new (w := X145) (.cells #[] 57))
        refine hK.out _ _ (after_mk hcur) (fun hHeld => ?_)
        clear hK K
        try simp only [Act.put, List.setIfInBounds_toArray, List.set_cons_zero, List.set_cons_succ]
        generalize hY : World.alloc X145 (.cells #[] 57) = X158 at *
        clear hY
        refine wpAnyH_ready (rs := [6, 11]) (by kernel_rfl) (by simp) ?_
        refine AllReadyH.cons rfl (fun K hK => ?_) (AllReadyH.cons rfl (fun K hK => ?_) AllReadyH.nil)
        · go_simp
          refine (l9Copy_any a1 n1 c1 d X158 HN1.out ((HRD.out _ hcur).1) HAC.out.1 hx1).mono ?_
          rintro e X159 ⟨z1, k1, rfl, hb, o1⟩
          have OX := OX.put (A := [(rwB X0.heap.size)]) (B := [(rwN0 X145.heap.size), noRow]) (r := noRow) (r' := (rwD z1 n1 k1 d)) rfl hb o1 (Nat.le_refl _) hcur.size
          have hcur := below_after_of hcur hb
          clear hb o1
          refine hK.out _ _ (after_mk hcur) (fun hHeld => ?_)
          clear hK K
          try simp only [Act.put, List.setIfInBounds_toArray, List.set_cons_zero, List.set_cons_succ]
          refine wpAnyH_ready (rs := [10, 11]) (by kernel_rfl) (by simp) ?_
          refine AllReadyH.cons rfl (fun K hK => ?_) (AllReadyH.cons rfl (fun K hK => ?_) AllReadyH.nil)
          · rw [if_pos (by rfl)]
            refine wp_cpSl _ _ rfl W.heap.size X145.heap.size n2 c2 a2 n HN2.out (by rfl) (OX.own _ (List.mem_append_right [(rwB X0.heap.size), (rwD z1 n1 k1 d)] (List.Mem.head _))) (by rfl) ((HRD.out _ hcur).2.1) HAC.out.2.1 hx2 hcur.size ?_
            intro z2 k2 X160 o2 gr2 hb2
            have OX := OX.laid (A := [(rwB X0.heap.size), (rwD z1 n1 k1 d)]) (B := [noRow]) (r := (rwN0 X145.heap.size)) (r' := (rwN z2 n2 k2 n)) rfl gr2 o2 hb2 (Nat.le_refl _)
            have hcur := hcur.grown gr2 hcur.size (fun j e => by cases e; exact hg7)
            clear o2 gr2 hb2
            refine hK.out _ _ (after_mk hcur) (fun hHeld => ?_)
            clear hK K
            try simp only [Act.put, List.setIfInBounds_toArray]
            refine wpAnyH_ready (rs := [11]) (by kernel_rfl) (by simp) ?_
            refine AllReadyH.cons rfl (fun K hK => ?_) AllReadyH.nil
            go_simp
            have OX := OX.put (A := [(rwB X0.heap.size), (rwD z1 n1 k1 d), (rwN z2 n2 k2 n)]) (B := []) (r := noRow) (r' := (rwH0 X160.heap.size)) rfl (one_new (w := X160) (.cells #[] 88)) (none_cpHd X160) (Nat.le_refl _) hcur.size
            have hg11 : W.heap.size ≤ X160.heap.size := hcur.size
            have hcur := below_after_of hcur (one_new (w := X160) (.cells #[] 88))
            refine hK.out _ _ (after_mk hcur) (fun hHeld => ?_)
            clear hK K
            try simp only [Act.put, List.setIfInBounds_toArray, List.set_cons_zero, List.set_cons_succ]
            generalize hY : World.alloc X160 (.cells #[] 88) = X161 at *
            clear hY
            refine wpAnyH_ready (rs := [14]) (by kernel_rfl) (by simp) ?_
            refine AllReadyH.cons rfl (fun K hK => ?_) AllReadyH.nil
            rw [if_pos (by rfl)]
            refine wp_cpHd _ _ rfl W.heap.size X160.heap.size n3 c3 a3 h HN3.out (by rfl) (OX.own _ (List.mem_append_right [(rwB X0.heap.size), (rwD z1 n1 k1 d), (rwN z2 n2 k2 n)] (List.Mem.head _))) (by rfl) ((HRD.out _ hcur).2.2) HAC.out.2.2 hx3 hcur.size ?_
            intro z3 k3 X162 o2 gr2 hb2
            have OX := OX.laid (A := [(rwB X0.heap.size), (rwD z1 n1 k1 d), (rwN z2 n2 k2 n)]) (B := []) (r := (rwH0 X160.heap.size)) (r' := (rwH z3 n3 k3 h)) rfl gr2 o2 hb2 (Nat.le_refl _)
            have hcur := hcur.grown gr2 hcur.size (fun j e => by cases e; exact hg11)
            clear o2 gr2 hb2
            refine hK.out _ _ (after_mk hcur) (fun hHeld => ?_)
            clear hK K
            try simp only [Act.put, List.setIfInBounds_toArray]
            refine h_take (i := 15) (d := some 20) (v := ?vc54) (by rfl) (by kernel_rfl) (by kernel_rfl) (by kernel_rfl) (fun _ _ _ h => by obtain ⟨_, _, _, _, _, _, _, _, _, h0, _⟩ := h; cases h0) (by rfl) ?hyc54 hHeld ?restc54
            case hyc54 =>
              intro o ho
              simp only [List.getElem?_toArray, List.getElem?_cons_succ, List.getElem?_cons_zero, Option.some.injEq] at ho
              subst ho
              rintro _ ⟨nw, rfl⟩
              first | (go_simp; done) | (go_simp; with_reducible rfl)
            try simp only [Act.put]
            obtain ⟨e0, e1, e2, e3, e4, e5, f0, f1, f2, f3, f4, f5⟩ := box6_all OX
            refine wpAnyH_ready (rs := [17]) (by kernel_rfl) (by simp) ?_
            refine AllReadyH.cons rfl (fun K hK => ?_) AllReadyH.nil
            have OX := own_box6 OX (.int .i64 ph) (.int .i64 cu) (.slice z1 n1 k1) (.slice z2 n2 k2) (.slice z3 n3 k3) (.slice none 0 0)
            have hcur := below_box6 hcur hbx (.int .i64 ph) (.int .i64 cu) (.slice z1 n1 k1) (.slice z2 n2 k2) (.slice z3 n3 k3) (.slice none 0 0)
            go_simp
            refine hK.out _ _ (after_mk hcur) (fun hHeld => ?_)
            clear hK K
            try simp only [Act.put, List.setIfInBounds_toArray, List.set_cons_zero, List.set_cons_succ]
            refine wpAnyH_done (by kernel_rfl) ?_ _
            exact ⟨X0.heap.size, z1, k1, z2, k2, z3, k3, X145.heap.size, X160.heap.size, rfl, rfl, hcur, OX⟩
          · go_simp
            have OX := OX.put (A := [(rwB X0.heap.size), (rwD z1 n1 k1 d), (rwN0 X145.heap.size)]) (B := []) (r := noRow) (r' := (rwH0 X159.heap.size)) rfl (one_new (w := X159) (.cells #[] 88)) (none_cpHd X159) (Nat.le_refl _) hcur.size
            have hg11 : W.heap.size ≤ X159.heap.size := hcur.size
            have hcur := below_after_of hcur (one_new (w := X159) (.cells #[] 88))
            refine hK.out _ _ (after_mk hcur) (fun hHeld => ?_)
            clear hK K
            try simp only [Act.put, List.setIfInBounds_toArray, List.set_cons_zero, List.set_cons_succ]
            generalize hY : World.alloc X159 (.cells #[] 88) = X163 at *
            clear hY
            refine wpAnyH_ready (rs := [10]) (by kernel_rfl) (by simp) ?_
            refine AllReadyH.cons rfl (fun K hK => ?_) AllReadyH.nil
            rw [if_pos (by rfl)]
            refine wp_cpSl _ _ rfl W.heap.size X145.heap.size n2 c2 a2 n HN2.out (by rfl) (OX.own _ (List.mem_append_right [(rwB X0.heap.size), (rwD z1 n1 k1 d)] (List.Mem.head _))) (by rfl) ((HRD.out _ hcur).2.1) HAC.out.2.1 hx2 hcur.size ?_
            intro z2 k2 X164 o2 gr2 hb2
            have OX := OX.laid (A := [(rwB X0.heap.size), (rwD z1 n1 k1 d)]) (B := [(rwH0 X159.heap.size)]) (r := (rwN0 X145.heap.size)) (r' := (rwN z2 n2 k2 n)) rfl gr2 o2 hb2 (Nat.le_refl _)
            have hcur := hcur.grown gr2 hcur.size (fun j e => by cases e; exact hg7)
            clear o2 gr2 hb2
            refine hK.out _ _ (after_mk hcur) (fun hHeld => ?_)
            clear hK K
            try simp only [Act.put, List.setIfInBounds_toArray]
            refine wpAnyH_ready (rs := [14]) (by kernel_rfl) (by simp) ?_
            refine AllReadyH.cons rfl (fun K hK => ?_) AllReadyH.nil
            rw [if_pos (by rfl)]
            refine wp_cpHd _ _ rfl W.heap.size X159.heap.size n3 c3 a3 h HN3.out (by rfl) (OX.own _ (List.mem_append_right [(rwB X0.heap.size), (rwD z1 n1 k1 d), (rwN z2 n2 k2 n)] (List.Mem.head _))) (by rfl) ((HRD.out _ hcur).2.2) HAC.out.2.2 hx3 hcur.size ?_
            intro z3 k3 X165 o2 gr2 hb2
            have OX := OX.laid (A := [(rwB X0.heap.size), (rwD z1 n1 k1 d), (rwN z2 n2 k2 n)]) (B := []) (r := (rwH0 X159.heap.size)) (r' := (rwH z3 n3 k3 h)) rfl gr2 o2 hb2 (Nat.le_refl _)
            have hcur := hcur.grown gr2 hcur.size (fun j e => by cases e; exact hg11)
            clear o2 gr2 hb2
            refine hK.out _ _ (after_mk hcur) (fun hHeld => ?_)
            clear hK K
            try simp only [Act.put]
            refine h_take (i := 15) (d := some 20) (v := ?vc55) (by rfl) (by kernel_rfl) (by kernel_rfl) (by kernel_rfl) (fun _ _ _ h => by obtain ⟨_, _, _, _, _, _, _, _, _, h0, _⟩ := h; cases h0) (by rfl) ?hyc55 hHeld ?restc55
            case hyc55 =>
              intro o ho
              simp only [List.getElem?_toArray, List.getElem?_cons_succ, List.getElem?_cons_zero, Option.some.injEq] at ho
              subst ho
              rintro _ ⟨nw, rfl⟩
              first | (go_simp; done) | (go_simp; with_reducible rfl)
            try simp only [Act.put]
            obtain ⟨e0, e1, e2, e3, e4, e5, f0, f1, f2, f3, f4, f5⟩ := box6_all OX
            refine wpAnyH_ready (rs := [17]) (by kernel_rfl) (by simp) ?_
            refine AllReadyH.cons rfl (fun K hK => ?_) AllReadyH.nil
            have OX := own_box6 OX (.int .i64 ph) (.int .i64 cu) (.slice z1 n1 k1) (.slice z2 n2 k2) (.slice z3 n3 k3) (.slice none 0 0)
            have hcur := below_box6 hcur hbx (.int .i64 ph) (.int .i64 cu) (.slice z1 n1 k1) (.slice z2 n2 k2) (.slice z3 n3 k3) (.slice none 0 0)
            go_simp
            refine hK.out _ _ (after_mk hcur) (fun hHeld => ?_)
            clear hK K
            try simp only [Act.put, List.setIfInBounds_toArray, List.set_cons_zero, List.set_cons_succ]
            refine wpAnyH_done (by kernel_rfl) ?_ _
            exact ⟨X0.heap.size, z1, k1, z2, k2, z3, k3, X145.heap.size, X159.heap.size, rfl, rfl, hcur, OX⟩
        · go_simp
          have OX := OX.put (A := [(rwB X0.heap.size), noRow, (rwN0 X145.heap.size)]) (B := []) (r := noRow) (r' := (rwH0 X158.heap.size)) rfl (one_new (w := X158) (.cells #[] 88)) (none_cpHd X158) (Nat.le_refl _) hcur.size
          have hg11 : W.heap.size ≤ X158.heap.size := hcur.size
          have hcur := below_after_of hcur (one_new (w := X158) (.cells #[] 88))
          refine hK.out _ _ (after_mk hcur) (fun hHeld => ?_)
          clear hK K
          try simp only [Act.put, List.setIfInBounds_toArray, List.set_cons_zero, List.set_cons_succ]
          generalize hY : World.alloc X158 (.cells #[] 88) = X166 at *
          clear hY
          refine wpAnyH_ready (rs := [6]) (by kernel_rfl) (by simp) ?_
          refine AllReadyH.cons rfl (fun K hK => ?_) AllReadyH.nil
          go_simp
          refine (l9Copy_any a1 n1 c1 d X166 HN1.out ((HRD.out _ hcur).1) HAC.out.1 hx1).mono ?_
          rintro e X167 ⟨z1, k1, rfl, hb, o1⟩
          have OX := OX.put (A := [(rwB X0.heap.size)]) (B := [(rwN0 X145.heap.size), (rwH0 X158.heap.size)]) (r := noRow) (r' := (rwD z1 n1 k1 d)) rfl hb o1 (Nat.le_refl _) hcur.size
          have hcur := below_after_of hcur hb
          clear hb o1
          refine hK.out _ _ (after_mk hcur) (fun hHeld => ?_)
          clear hK K
          try simp only [Act.put, List.setIfInBounds_toArray, List.set_cons_zero, List.set_cons_succ]
          refine wpAnyH_ready (rs := [10]) (by kernel_rfl) (by simp) ?_
          refine AllReadyH.cons rfl (fun K hK => ?_) AllReadyH.nil
          rw [if_pos (by rfl)]
          refine wp_cpSl _ _ rfl W.heap.size X145.heap.size n2 c2 a2 n HN2.out (by rfl) (OX.own _ (List.mem_append_right [(rwB X0.heap.size), (rwD z1 n1 k1 d)] (List.Mem.head _))) (by rfl) ((HRD.out _ hcur).2.1) HAC.out.2.1 hx2 hcur.size ?_
          intro z2 k2 X168 o2 gr2 hb2
          have OX := OX.laid (A := [(rwB X0.heap.size), (rwD z1 n1 k1 d)]) (B := [(rwH0 X158.heap.size)]) (r := (rwN0 X145.heap.size)) (r' := (rwN z2 n2 k2 n)) rfl gr2 o2 hb2 (Nat.le_refl _)
          have hcur := hcur.grown gr2 hcur.size (fun j e => by cases e; exact hg7)
          clear o2 gr2 hb2
          refine hK.out _ _ (after_mk hcur) (fun hHeld => ?_)
          clear hK K
          try simp only [Act.put, List.setIfInBounds_toArray]
          refine wpAnyH_ready (rs := [14]) (by kernel_rfl) (by simp) ?_
          refine AllReadyH.cons rfl (fun K hK => ?_) AllReadyH.nil
          rw [if_pos (by rfl)]
          refine wp_cpHd _ _ rfl W.heap.size X158.heap.size n3 c3 a3 h HN3.out (by rfl) (OX.own _ (List.mem_append_right [(rwB X0.heap.size), (rwD z1 n1 k1 d), (rwN z2 n2 k2 n)] (List.Mem.head _))) (by rfl) ((HRD.out _ hcur).2.2) HAC.out.2.2 hx3 hcur.size ?_
          intro z3 k3 X169 o2 gr2 hb2
          have OX := OX.laid (A := [(rwB X0.heap.size), (rwD z1 n1 k1 d), (rwN z2 n2 k2 n)]) (B := []) (r := (rwH0 X158.heap.size)) (r' := (rwH z3 n3 k3 h)) rfl gr2 o2 hb2 (Nat.le_refl _)
          have hcur := hcur.grown gr2 hcur.size (fun j e => by cases e; exact hg11)
          clear o2 gr2 hb2
          refine hK.out _ _ (after_mk hcur) (fun hHeld => ?_)
          clear hK K
          try simp only [Act.put]
          refine h_take (i := 15) (d := some 20) (v := ?vc56) (by rfl) (by kernel_rfl) (by kernel_rfl) (by kernel_rfl) (fun _ _ _ h => by obtain ⟨_, _, _, _, _, _, _, _, _, h0, _⟩ := h; cases h0) (by rfl) ?hyc56 hHeld ?restc56
          case hyc56 =>
            intro o ho
            simp only [List.getElem?_toArray, List.getElem?_cons_succ, List.getElem?_cons_zero, Option.some.injEq] at ho
            subst ho
            rintro _ ⟨nw, rfl⟩
            first | (go_simp; done) | (go_simp; with_reducible rfl)
          try simp only [Act.put]
          obtain ⟨e0, e1, e2, e3, e4, e5, f0, f1, f2, f3, f4, f5⟩ := box6_all OX
          refine wpAnyH_ready (rs := [17]) (by kernel_rfl) (by simp) ?_
          refine AllReadyH.cons rfl (fun K hK => ?_) AllReadyH.nil
          have OX := own_box6 OX (.int .i64 ph) (.int .i64 cu) (.slice z1 n1 k1) (.slice z2 n2 k2) (.slice z3 n3 k3) (.slice none 0 0)
          have hcur := below_box6 hcur hbx (.int .i64 ph) (.int .i64 cu) (.slice z1 n1 k1) (.slice z2 n2 k2) (.slice z3 n3 k3) (.slice none 0 0)
          go_simp
          refine hK.out _ _ (after_mk hcur) (fun hHeld => ?_)
          clear hK K
          try simp only [Act.put, List.setIfInBounds_toArray, List.set_cons_zero, List.set_cons_succ]
          refine wpAnyH_done (by kernel_rfl) ?_ _
          exact ⟨X0.heap.size, z1, k1, z2, k2, z3, k3, X145.heap.size, X158.heap.size, rfl, rfl, hcur, OX⟩
      · go_simp
        have OX := OX.put (A := [(rwB X0.heap.size), noRow, noRow]) (B := []) (r := noRow) (r' := (rwH0 X145.heap.size)) rfl (one_new (w := X145) (.cells #[] 88)) (none_cpHd X145) (Nat.le_refl _) hcur.size
        have hg11 : W.heap.size ≤ X145.heap.size := hcur.size
        have hcur := below_after_of hcur (one_new (w := X145) (.cells #[] 88))
        refine hK.out _ _ (after_mk hcur) (fun hHeld => ?_)
        clear hK K
        try simp only [Act.put, List.setIfInBounds_toArray, List.set_cons_zero, List.set_cons_succ]
        generalize hY : World.alloc X145 (.cells #[] 88) = X170 at *
        clear hY
        refine wpAnyH_ready (rs := [6, 7]) (by kernel_rfl) (by simp) ?_
        refine AllReadyH.cons rfl (fun K hK => ?_) (AllReadyH.cons rfl (fun K hK => ?_) AllReadyH.nil)
        · go_simp
          refine (l9Copy_any a1 n1 c1 d X170 HN1.out ((HRD.out _ hcur).1) HAC.out.1 hx1).mono ?_
          rintro e X171 ⟨z1, k1, rfl, hb, o1⟩
          have OX := OX.put (A := [(rwB X0.heap.size)]) (B := [noRow, (rwH0 X145.heap.size)]) (r := noRow) (r' := (rwD z1 n1 k1 d)) rfl hb o1 (Nat.le_refl _) hcur.size
          have hcur := below_after_of hcur hb
          clear hb o1
          refine hK.out _ _ (after_mk hcur) (fun hHeld => ?_)
          clear hK K
          try simp only [Act.put, List.setIfInBounds_toArray, List.set_cons_zero, List.set_cons_succ]
          refine wpAnyH_ready (rs := [7]) (by kernel_rfl) (by simp) ?_
          refine AllReadyH.cons rfl (fun K hK => ?_) AllReadyH.nil
          go_simp
          have OX := OX.put (A := [(rwB X0.heap.size), (rwD z1 n1 k1 d)]) (B := [(rwH0 X145.heap.size)]) (r := noRow) (r' := (rwN0 X171.heap.size)) rfl (one_new (w := X171) (.cells #[] 57)) (none_cpSl X171) (Nat.le_refl _) hcur.size
          have hg7 : W.heap.size ≤ X171.heap.size := hcur.size
          have hcur := below_after_of hcur (one_new (w := X171) (.cells #[] 57))
          refine hK.out _ _ (after_mk hcur) (fun hHeld => ?_)
          clear hK K
          try simp only [Act.put, List.setIfInBounds_toArray, List.set_cons_zero, List.set_cons_succ]
          generalize hY : World.alloc X171 (.cells #[] 57) = X172 at *
          clear hY
          refine wpAnyH_ready (rs := [10]) (by kernel_rfl) (by simp) ?_
          refine AllReadyH.cons rfl (fun K hK => ?_) AllReadyH.nil
          rw [if_pos (by rfl)]
          refine wp_cpSl _ _ rfl W.heap.size X171.heap.size n2 c2 a2 n HN2.out (by rfl) (OX.own _ (List.mem_append_right [(rwB X0.heap.size), (rwD z1 n1 k1 d)] (List.Mem.head _))) (by rfl) ((HRD.out _ hcur).2.1) HAC.out.2.1 hx2 hcur.size ?_
          intro z2 k2 X173 o2 gr2 hb2
          have OX := OX.laid (A := [(rwB X0.heap.size), (rwD z1 n1 k1 d)]) (B := [(rwH0 X145.heap.size)]) (r := (rwN0 X171.heap.size)) (r' := (rwN z2 n2 k2 n)) rfl gr2 o2 hb2 (Nat.le_refl _)
          have hcur := hcur.grown gr2 hcur.size (fun j e => by cases e; exact hg7)
          clear o2 gr2 hb2
          refine hK.out _ _ (after_mk hcur) (fun hHeld => ?_)
          clear hK K
          try simp only [Act.put, List.setIfInBounds_toArray]
          refine wpAnyH_ready (rs := [14]) (by kernel_rfl) (by simp) ?_
          refine AllReadyH.cons rfl (fun K hK => ?_) AllReadyH.nil
          rw [if_pos (by rfl)]
          refine wp_cpHd _ _ rfl W.heap.size X145.heap.size n3 c3 a3 h HN3.out (by rfl) (OX.own _ (List.mem_append_right [(rwB X0.heap.size), (rwD z1 n1 k1 d), (rwN z2 n2 k2 n)] (List.Mem.head _))) (by rfl) ((HRD.out _ hcur).2.2) HAC.out.2.2 hx3 hcur.size ?_
          intro z3 k3 X174 o2 gr2 hb2
          have OX := OX.laid (A := [(rwB X0.heap.size), (rwD z1 n1 k1 d), (rwN z2 n2 k2 n)]) (B := []) (r := (rwH0 X145.heap.size)) (r' := (rwH z3 n3 k3 h)) rfl gr2 o2 hb2 (Nat.le_refl _)
          have hcur := hcur.grown gr2 hcur.size (fun j e => by cases e; exact hg11)
          clear o2 gr2 hb2
          refine hK.out _ _ (after_mk hcur) (fun hHeld => ?_)
          clear hK K
          try simp only [Act.put]
          refine h_take (i := 15) (d := some 20) (v := ?vc57) (by rfl) (by kernel_rfl) (by kernel_rfl) (by kernel_rfl) (fun _ _ _ h => by obtain ⟨_, _, _, _, _, _, _, _, _, h0, _⟩ := h; cases h0) (by rfl) ?hyc57 hHeld ?restc57
          case hyc57 =>
            intro o ho
            simp only [List.getElem?_toArray, List.getElem?_cons_succ, List.getElem?_cons_zero, Option.some.injEq] at ho
            subst ho
            rintro _ ⟨nw, rfl⟩
            first | (go_simp; done) | (go_simp; with_reducible rfl)
          try simp only [Act.put]
          obtain ⟨e0, e1, e2, e3, e4, e5, f0, f1, f2, f3, f4, f5⟩ := box6_all OX
          refine wpAnyH_ready (rs := [17]) (by kernel_rfl) (by simp) ?_
          refine AllReadyH.cons rfl (fun K hK => ?_) AllReadyH.nil
          have OX := own_box6 OX (.int .i64 ph) (.int .i64 cu) (.slice z1 n1 k1) (.slice z2 n2 k2) (.slice z3 n3 k3) (.slice none 0 0)
          have hcur := below_box6 hcur hbx (.int .i64 ph) (.int .i64 cu) (.slice z1 n1 k1) (.slice z2 n2 k2) (.slice z3 n3 k3) (.slice none 0 0)
          go_simp
          refine hK.out _ _ (after_mk hcur) (fun hHeld => ?_)
          clear hK K
          try simp only [Act.put, List.setIfInBounds_toArray, List.set_cons_zero, List.set_cons_succ]
          refine wpAnyH_done (by kernel_rfl) ?_ _
          exact ⟨X0.heap.size, z1, k1, z2, k2, z3, k3, X171.heap.size, X145.heap.size, rfl, rfl, hcur, OX⟩
        · go_simp
          have OX := OX.put (A := [(rwB X0.heap.size), noRow]) (B := [(rwH0 X145.heap.size)]) (r := noRow) (r' := (rwN0 X170.heap.size)) rfl (one_new (w := X170) (.cells #[] 57)) (none_cpSl X170) (Nat.le_refl _) hcur.size
          have hg7 : W.heap.size ≤ X170.heap.size := hcur.size
          have hcur := below_after_of hcur (one_new (w := X170) (.cells #[] 57))
          refine hK.out _ _ (after_mk hcur) (fun hHeld => ?_)
          clear hK K
          try simp only [Act.put, List.setIfInBounds_toArray, List.set_cons_zero, List.set_cons_succ]
          generalize hY : World.alloc X170 (.cells #[] 57) = X175 at *
          clear hY
          refine wpAnyH_ready (rs := [6]) (by kernel_rfl) (by simp) ?_
          refine AllReadyH.cons rfl (fun K hK => ?_) AllReadyH.nil
          go_simp
          refine (l9Copy_any a1 n1 c1 d X175 HN1.out ((HRD.out _ hcur).1) HAC.out.1 hx1).mono ?_
          rintro e X176 ⟨z1, k1, rfl, hb, o1⟩
          have OX := OX.put (A := [(rwB X0.heap.size)]) (B := [(rwN0 X170.heap.size), (rwH0 X145.heap.size)]) (r := noRow) (r' := (rwD z1 n1 k1 d)) rfl hb o1 (Nat.le_refl _) hcur.size
          have hcur := below_after_of hcur hb
          clear hb o1
          refine hK.out _ _ (after_mk hcur) (fun hHeld => ?_)
          clear hK K
          try simp only [Act.put, List.setIfInBounds_toArray, List.set_cons_zero, List.set_cons_succ]
          refine wpAnyH_ready (rs := [10]) (by kernel_rfl) (by simp) ?_
          refine AllReadyH.cons rfl (fun K hK => ?_) AllReadyH.nil
          rw [if_pos (by rfl)]
          refine wp_cpSl _ _ rfl W.heap.size X170.heap.size n2 c2 a2 n HN2.out (by rfl) (OX.own _ (List.mem_append_right [(rwB X0.heap.size), (rwD z1 n1 k1 d)] (List.Mem.head _))) (by rfl) ((HRD.out _ hcur).2.1) HAC.out.2.1 hx2 hcur.size ?_
          intro z2 k2 X177 o2 gr2 hb2
          have OX := OX.laid (A := [(rwB X0.heap.size), (rwD z1 n1 k1 d)]) (B := [(rwH0 X145.heap.size)]) (r := (rwN0 X170.heap.size)) (r' := (rwN z2 n2 k2 n)) rfl gr2 o2 hb2 (Nat.le_refl _)
          have hcur := hcur.grown gr2 hcur.size (fun j e => by cases e; exact hg7)
          clear o2 gr2 hb2
          refine hK.out _ _ (after_mk hcur) (fun hHeld => ?_)
          clear hK K
          try simp only [Act.put, List.setIfInBounds_toArray]
          refine wpAnyH_ready (rs := [14]) (by kernel_rfl) (by simp) ?_
          refine AllReadyH.cons rfl (fun K hK => ?_) AllReadyH.nil
          rw [if_pos (by rfl)]
          refine wp_cpHd _ _ rfl W.heap.size X145.heap.size n3 c3 a3 h HN3.out (by rfl) (OX.own _ (List.mem_append_right [(rwB X0.heap.size), (rwD z1 n1 k1 d), (rwN z2 n2 k2 n)] (List.Mem.head _))) (by rfl) ((HRD.out _ hcur).2.2) HAC.out.2.2 hx3 hcur.size ?_
          intro z3 k3 X178 o2 gr2 hb2
          have OX := OX.laid (A := [(rwB X0.heap.size), (rwD z1 n1 k1 d), (rwN z2 n2 k2 n)]) (B := []) (r := (rwH0 X145.heap.size)) (r' := (rwH z3 n3 k3 h)) rfl gr2 o2 hb2 (Nat.le_refl _)
          have hcur := hcur.grown gr2 hcur.size (fun j e => by cases e; exact hg11)
          clear o2 gr2 hb2
          refine hK.out _ _ (after_mk hcur) (fun hHeld => ?_)
          clear hK K
          try simp only [Act.put]
          refine h_take (i := 15) (d := some 20) (v := ?vc58) (by rfl) (by kernel_rfl) (by kernel_rfl) (by kernel_rfl) (fun _ _ _ h => by obtain ⟨_, _, _, _, _, _, _, _, _, h0, _⟩ := h; cases h0) (by rfl) ?hyc58 hHeld ?restc58
          case hyc58 =>
            intro o ho
            simp only [List.getElem?_toArray, List.getElem?_cons_succ, List.getElem?_cons_zero, Option.some.injEq] at ho
            subst ho
            rintro _ ⟨nw, rfl⟩
            first | (go_simp; done) | (go_simp; with_reducible rfl)
          try simp only [Act.put]
          obtain ⟨e0, e1, e2, e3, e4, e5, f0, f1, f2, f3, f4, f5⟩ := box6_all OX
          refine wpAnyH_ready (rs := [17]) (by kernel_rfl) (by simp) ?_
          refine AllReadyH.cons rfl (fun K hK => ?_) AllReadyH.nil
          have OX := own_box6 OX (.int .i64 ph) (.int .i64 cu) (.slice z1 n1 k1) (.slice z2 n2 k2) (.slice z3 n3 k3) (.slice none 0 0)
          have hcur := below_box6 hcur hbx (.int .i64 ph) (.int .i64 cu) (.slice z1 n1 k1) (.slice z2 n2 k2) (.slice z3 n3 k3) (.slice none 0 0)
          go_simp
          refine hK.out _ _ (after_mk hcur) (fun hHeld => ?_)
          clear hK K
          try simp only [Act.put, List.setIfInBounds_toArray, List.set_cons_zero, List.set_cons_succ]
          refine wpAnyH_done (by kernel_rfl) ?_ _
          exact ⟨X0.heap.size, z1, k1, z2, k2, z3, k3, X170.heap.size, X145.heap.size, rfl, rfl, hcur, OX⟩
  case tail =>
    rintro _ _ w1 ⟨bx, z1, k1, z2, k2, z3, k3, g7, g11, rfl, rfl, hb1, ho1⟩
    dsimp only
    obtain ⟨i0, hi, hz0, hz1, hz2⟩ := info_parts Tryz.infoDi
    obtain ⟨m, hm⟩ : ∃ m, m = p.length := ⟨_, rfl⟩
    have HM : Hid (m = p.length) := hm
    rw [← hm] at HI0 HPC ⊢
    have hmx : m ≤ 1048576 := by rw [hm]; exact hpx
    obtain ⟨⟨-, -, -, -, -, x5⟩, -⟩ := six_cellsS (HI0.out.below hb1).box
    have HB1 : Hid (Below W.heap.size W w1) := hb1
    have HO1 : Hid (Own W.heap.size w1.heap.size w1 ([bRow bx [.int .i64 ph, .int .i64 cu, .slice z1 n1 k1, .slice z2 n2 k2, .slice z3 n3 k3, .slice none 0 0], ⟨52, 4, .slice z1 n1 k1, n1, flR d⟩, ⟨57, 2, .slice z2 n2 k2, n2, (fl n).map (Value.int .i64)⟩, ⟨88, 5, .slice z3 n3 k3, n3, flH h⟩] ++ oRow (.slice none 0 0) [] :: pRows [] p 0)) := ho1.addNil
    clear hb1 ho1 hm HAC HRD q0 q1 q2 q3 q4 hne
    go_wp2
    go_loopw [4] (fun i wr => ∃ (k : Nat) (us : List Value) (a : Option Addr) (c : Nat), k ≤ m ∧ i = .int .i64 k ∧ Hid (us.length = k) ∧ Hid (Below W.heap.size W wr) ∧ Hid (Own W.heap.size wr.heap.size wr ([bRow bx [.int .i64 ph, .int .i64 cu, .slice z1 n1 k1, .slice z2 n2 k2, .slice z3 n3 k3, .slice a k c], ⟨52, 4, .slice z1 n1 k1, n1, flR d⟩, ⟨57, 2, .slice z2 n2 k2, n2, (fl n).map (Value.int .i64)⟩, ⟨88, 5, .slice z3 n3 k3, n3, flH h⟩] ++ oRow (.slice a k c) us :: pRows us p k))) (fun i _ => m - (intOf i).toNat)
    case atStart => exact ⟨0, [], none, 0, Nat.zero_le _, rfl, rfl, HB1, HO1⟩
    case round =>
      obtain ⟨k, us, a, c, hk, rfl, HU, HB, HO⟩ := hrel
      clear x5
      obtain ⟨⟨-, -, -, -, -, x5⟩, -⟩ := six_cellsS (HI0.out.below HB.out).box
      by_cases hkm : k < m
      · have hki : (k : Int) < (m : Int) := by omega
        obtain ⟨g4, ua, q, uc, ha4, hg4, hcell, hq, hrd, hac, hqx⟩ := HPC.out k hkm
        subst ha4
        have hwr := below_after_of HBW.out HB.out
        have hob : wr.ownsRow W.heap.size 38 6 (.slice (some ⟨bx, 0, none⟩) 1 1) 1 [.int .i64 ph, .int .i64 cu, .slice z1 n1 k1, .slice z2 n2 k2, .slice z3 n3 k3, .slice a k c] := HO.out.own _ (List.Mem.head _)
        have e5 := hob.cellAt 5 (by omega)
        simp only [List.getElem?_cons_zero, List.getElem?_cons_succ] at e5
        have s5 := (hwr.cell (p := ⟨g4, k, none⟩) hg4).trans hcell
        have hbx0 : W.heap.size ≤ bx ∧ bx < wr.heap.size := own_blk hob rfl
        have hNW : w.heap.size + 1 < W.heap.size := HI0.out.lt
        have HCC : Hid (∀ w', Below wr.heap.size wr w' → w'.cell? ⟨bx, 5, none⟩ = some (.slice a k c) ∧ w'.cell? ⟨w.heap.size, 5, none⟩ = some (.slice (some ⟨g4, 0, none⟩) m c4) ∧ w'.cell? ⟨g4, k, none⟩ = some (.slice ua q uc)) := fun w' hb => ⟨(hb.cell (p := ⟨bx, 5, none⟩) hbx0.2).trans e5, (six_cellsS ((HI0.out.below HB.out).below hb).box).1.2.2.2.2.2, (hb.cell (p := ⟨g4, k, none⟩) (Nat.lt_of_lt_of_le hg4 hwr.size)).trans s5⟩
        have HCW : Hid (W.cell? ⟨w.heap.size, 0, none⟩ = some (.int .i64 ph) ∧ W.cell? ⟨w.heap.size, 5, none⟩ = some (.slice (some ⟨g4, 0, none⟩) m c4) ∧ W.cell? ⟨g4, k, none⟩ = some (.slice ua q uc)) := ⟨(six_cellsS HI0.out.box).1.1, (six_cellsS HI0.out.box).1.2.2.2.2.2, (HBW.out.cell (p := ⟨g4, k, none⟩) hg4).trans hcell⟩
        have hL9 := fun w' (hb : Below wr.heap.size wr w') => l9Copy_any ua q uc (dAt p k) w' hq ((hrd.below hwr).below hb) hac hqx
        have HRO : Hid (∀ w', Below wr.heap.size wr w' → w'.ownsRow W.heap.size 33 1 (.slice a k c) k us) := fun w' hb => by
          have := (HO.out.below hb).own (oRow (.slice a k c) us) (List.mem_append_right _ (List.Mem.head _))
          have this : w'.ownsRow W.heap.size 33 1 (.slice a k c) us.length us := this
          rw [HU.out] at this
          exact this
        have HNB : Hid (∀ x, (Value.slice a k c).ownBlock = some x → W.heap.size ≤ x) := fun x hx => (own_blk (HRO.out _ (Below.refl _ _)) hx).1
        have HQ : Hid (q = (dAt p k).length) := hq
        have HB5 : Hid (∀ w', Below wr.heap.size wr w' → w'.cell? ⟨bx, 5, none⟩ = some (.slice a k c)) := fun w' hb => (HCC.out w' hb).1
        have HSZ : Hid (W.heap.size ≤ wr.heap.size) := HB.out.size
        have hnw := HB.out
        obtain ⟨y0, y1, y2⟩ := HCC.out _ (Below.refl _ _)
        obtain ⟨-, w1', w2'⟩ := HCW.out
        have q5 := After.cell w1'
        have qk := After.cell w2'
        have hne := After.ne W
        clear hcell hrd hac hob e5 s5 hwr hq HCC
        go_wp2_with fail
        clear x5 y0 y1 y2 w1' w2'
        refine wp_region_held_drew (S := fun w' => ∃ n : After W, w' = n.w) (by kernel_rfl) (after_mk hnw.drew) (fun hHeld => ?_)
        have hcur : Below W.heap.size W wr.drew := hnw.drew
        have hbx : Below wr.heap.size wr wr.drew := (Below.refl _ _).drew
        generalize wr.drew = V0 at *
        refine h_take (i := 0) (d := some 28) (v := ?vl1) (by rfl) (by kernel_rfl) (by kernel_rfl) (by kernel_rfl) (fun _ _ _ h => h) (by rfl) ?hyl1 hHeld ?restl1
        case hyl1 =>
          intro o ho
          simp only [List.getElem?_toArray, List.getElem?_cons_zero, Option.some.injEq] at ho
          subst ho
          rintro _ ⟨nw, rfl⟩
          first | (go_simp; done) | (go_simp; with_reducible rfl)
        try simp only [Act.put, List.setIfInBounds_toArray, List.set_cons_zero, List.set_cons_succ]
        refine h_take (i := 2) (d := some 30) (v := ?vl2) (by rfl) (by kernel_rfl) (by kernel_rfl) (by kernel_rfl) (fun _ _ _ h => h) (by rfl) ?hyl2 hHeld ?restl2
        case hyl2 =>
          intro o ho
          simp only [List.getElem?_toArray, List.getElem?_cons_succ, List.getElem?_cons_zero, Option.some.injEq] at ho
          subst ho
          rintro _ ⟨nw, rfl⟩
          first | (go_simp; done) | (go_simp; with_reducible rfl)
        try simp only [Act.put, List.setIfInBounds_toArray, List.set_cons_zero, List.set_cons_succ]
        refine h_take (i := 3) (d := some 31) (v := ?vl3) (by rfl) (by kernel_rfl) (by kernel_rfl) (by kernel_rfl) (fun _ _ _ h => h) (by rfl) ?hyl3 hHeld ?restl3
        case hyl3 =>
          intro o ho
          simp only [List.getElem?_toArray, List.getElem?_cons_succ, List.getElem?_cons_zero, Option.some.injEq] at ho
          subst ho
          rintro _ ⟨nw, rfl⟩
          first | (go_simp; done) | (go_simp; with_reducible rfl)
        try simp only [Act.put, List.setIfInBounds_toArray, List.set_cons_zero, List.set_cons_succ]
        refine h_take (i := 4) (d := some 32) (v := ?vl4) (by rfl) (by kernel_rfl) (by kernel_rfl) (by kernel_rfl) (fun _ _ _ h => h) (by rfl) ?hyl4 hHeld ?restl4
        case hyl4 =>
          intro o ho
          simp only [List.getElem?_toArray, List.getElem?_cons_succ, List.getElem?_cons_zero, Option.some.injEq] at ho
          subst ho
          rintro _ ⟨nw, rfl⟩
          first | (go_simp; done) | (go_simp; with_reducible rfl)
        try simp only [Act.put, List.setIfInBounds_toArray, List.set_cons_zero, List.set_cons_succ]
        refine h_take (i := 5) (d := some 33) (v := ?vl5) (by rfl) (by kernel_rfl) (by kernel_rfl) (by kernel_rfl) (fun _ _ _ h => h) (by rfl) ?hyl5 hHeld ?restl5
        case hyl5 =>
          intro o ho
          simp only [List.getElem?_toArray, List.getElem?_cons_succ, List.getElem?_cons_zero, Option.some.injEq] at ho
          subst ho
          rintro _ ⟨nw, rfl⟩
          first | (go_simp; done) | (go_simp; with_reducible rfl)
        try simp only [Act.put, List.setIfInBounds_toArray, List.set_cons_zero, List.set_cons_succ]
        refine h_take (i := 6) (d := some 34) (v := ?vl6) (by rfl) (by kernel_rfl) (by kernel_rfl) (by kernel_rfl) (fun _ _ _ h => h) (by rfl) ?hyl6 hHeld ?restl6
        case hyl6 =>
          intro o ho
          simp only [List.getElem?_toArray, List.getElem?_cons_succ, List.getElem?_cons_zero, Option.some.injEq] at ho
          subst ho
          rintro _ ⟨nw, rfl⟩
          first | (go_simp; done) | (go_simp; with_reducible rfl)
        try simp only [Act.put, List.setIfInBounds_toArray, List.set_cons_zero, List.set_cons_succ]
        refine wpAnyH_ready (rs := [1, 7]) (by kernel_rfl) (by simp) ?_
        refine AllReadyH.cons rfl (fun K hK => ?_) (AllReadyH.cons rfl (fun K hK => ?_) AllReadyH.nil)
        · have f1 := HB5.out _ hbx
          go_simp
          refine hK.out _ _ (after_mk hcur) (fun hHeld => ?_)
          clear hK K
          try simp only [Act.put, List.setIfInBounds_toArray, List.set_cons_zero, List.set_cons_succ]
          clear f1
          refine wpAnyH_ready (rs := [7]) (by kernel_rfl) (by simp) ?_
          refine AllReadyH.cons rfl (fun K hK => ?_) AllReadyH.nil
          go_simp
          refine (hL9 _ hbx).mono ?_
          rintro e w5 ⟨b5, d5, rfl, hb5, o5⟩
          have HV5 : Hid (V0.heap.size ≤ w5.heap.size ∧ wr.heap.size ≤ V0.heap.size ∧ w5.ownsRow V0.heap.size 52 4 (.slice b5 q d5) q (flR (dAt p k))) := ⟨hb5.size, hbx.size, o5⟩
          have hbx := below_after_of hbx hb5
          have hcur := below_after_of hcur hb5
          clear hb5 o5
          refine hK.out _ _ (after_mk hcur) (fun hHeld => ?_)
          clear hK K
          try simp only [Act.put, List.setIfInBounds_toArray, List.set_cons_zero, List.set_cons_succ]
          have hb5w : Below wr.heap.size wr w5 := hbx
          refine wpAnyH_ready (rs := [8]) (by kernel_rfl) (by simp) ?_
          refine AllReadyH.cons rfl (fun K hK => ?_) AllReadyH.nil
          go_simp
          have hbx := hbx.alloc hbx.size (.cells #[.slice b5 q d5] 33)
          have hcur := hcur.alloc hcur.size (.cells #[.slice b5 q d5] 33)
          refine hK.out _ _ (after_mk hcur) (fun hHeld => ?_)
          clear hK K
          try simp only [Act.put, List.setIfInBounds_toArray, List.set_cons_zero, List.set_cons_succ]
          refine wpAnyH_ready (rs := [9]) (by kernel_rfl) (by simp) ?_
          refine AllReadyH.cons rfl (fun K hK => ?_) AllReadyH.nil
          refine step_append_at (by rfl) _ _ _ (by rfl) W.heap.size 33 i0 (.agg #[.slice none 0 0]) 1 24 Tryz.underlying36 hi hz0 hz1 hz2 rfl (by decide) (.slice a k c) k us (by rfl) (HRO.out _ hbx) ⟨w5.heap.size, 0, none⟩ 1 [.slice b5 q d5] (by rfl) (by rfl) (World.news_of_block (heap_alloc_new _ _)) (by intro u hu; rw [List.mem_singleton] at hu; subst hu; rfl) (by unfold maxLen; omega) (by omega) hcur.size ?_
          intro g6 c6 w6 o6 gr6 hk6
          have hcur := hcur.grown gr6 hcur.size (fun x hx => HNB.out x hx)
          refine hK.out _ _ (after_mk hcur) (fun hHeld => ?_)
          clear hK K
          try simp only [Act.put, List.setIfInBounds_toArray]
          refine h_take (i := 10) (d := some 38) (v := ?vl7) (by rfl) (by kernel_rfl) (by kernel_rfl) (by kernel_rfl) (fun _ _ _ h => h) (by rfl) ?hyl7 hHeld ?restl7
          case hyl7 =>
            intro o ho
            simp only [List.getElem?_toArray, List.getElem?_cons_succ, List.getElem?_cons_zero, Option.some.injEq] at ho
            subst ho
            rintro _ ⟨nw, rfl⟩
            first | (go_simp; done) | (go_simp; with_reducible rfl)
          try simp only [Act.put]
          have O6 : Own W.heap.size w6.heap.size w6 ([bRow bx [.int .i64 ph, .int .i64 cu, .slice z1 n1 k1, .slice z2 n2 k2, .slice z3 n3 k3, .slice a k c], ⟨52, 4, .slice z1 n1 k1, n1, flR d⟩, ⟨57, 2, .slice z2 n2 k2, n2, (fl n).map (Value.int .i64)⟩, ⟨88, 5, .slice z3 n3 k3, n3, flH h⟩] ++ oRow (.slice (some ⟨g6, 0, none⟩) (k + 1) c6) (us ++ [Value.slice b5 q d5]) :: (pRows us p k ++ [dRow (.slice b5 q d5) (dAt p k)])) := by
            have A5 := (HO.out.below hb5w).wide (hi' := V0.heap.size) (Nat.le_refl _) HV5.out.2.1
            have X5 : Own V0.heap.size w5.heap.size w5 [dRow (.slice b5 q d5) (dAt p k)] := Own.single (by
              show w5.ownsRow V0.heap.size 52 4 (.slice b5 q d5) (dAt p k).length (flR (dAt p k))
              rw [← HQ.out]
              exact HV5.out.2.2) (Nat.le_refl _)
            have A6 := A5.app X5 (by have := HSZ.out; have := HV5.out.2.1; omega) HV5.out.1
            rw [List.append_assoc, List.cons_append] at A6
            have A7 := A6.below (one_new (.cells #[.slice b5 q d5] 33))
            refine Own.grow (A := [bRow bx [.int .i64 ph, .int .i64 cu, .slice z1 n1 k1, .slice z2 n2 k2, .slice z3 n3 k3, .slice a k c], ⟨52, 4, .slice z1 n1 k1, n1, flR d⟩, ⟨57, 2, .slice z2 n2 k2, n2, (fl n).map (Value.int .i64)⟩, ⟨88, 5, .slice z3 n3 k3, n3, flH h⟩]) (r := oRow (.slice a k c) us) (g := g6) A7 gr6 ?_ rfl hk6 (by simp) (by have := HSZ.out; have := HV5.out.1; have := HV5.out.2.1; simp; omega)
            show w6.ownsRow W.heap.size 33 1 (.slice (some ⟨g6, 0, none⟩) (k + 1) c6) (us ++ [Value.slice b5 q d5]).length (us ++ [Value.slice b5 q d5])
            rw [List.length_append, HU.out]
            exact o6
          have hob6 : w6.ownsRow W.heap.size 38 6 (.slice (some ⟨bx, 0, none⟩) 1 1) 1 [.int .i64 ph, .int .i64 cu, .slice z1 n1 k1, .slice z2 n2 k2, .slice z3 n3 k3, .slice a k c] := O6.own _ (List.Mem.head _)
          have f6 := hob6.frozenAt 5
          have c6x := hob6.cellAt 5 (by omega)
          simp only [List.getElem?_cons_zero, List.getElem?_cons_succ] at c6x
          refine wpAnyH_ready (rs := [11]) (by kernel_rfl) (by simp) ?_
          refine AllReadyH.cons rfl (fun K hK => ?_) AllReadyH.nil
          obtain ⟨s6, t6⟩ := hob6.stored 5 (.slice (some ⟨g6, 0, none⟩) (k + 1) c6)
          have hcur := hcur.setCell (p := ⟨bx, 5, none⟩) hbx0.1 (.slice (some ⟨g6, 0, none⟩) (k + 1) c6)
          have HO7 : Hid (Own W.heap.size (w6.setCell ⟨bx, 5, none⟩ (.slice (some ⟨g6, 0, none⟩) (k + 1) c6)).heap.size (w6.setCell ⟨bx, 5, none⟩ (.slice (some ⟨g6, 0, none⟩) (k + 1) c6)) ([bRow bx [.int .i64 ph, .int .i64 cu, .slice z1 n1 k1, .slice z2 n2 k2, .slice z3 n3 k3, .slice (some ⟨g6, 0, none⟩) (k + 1) c6], ⟨52, 4, .slice z1 n1 k1, n1, flR d⟩, ⟨57, 2, .slice z2 n2 k2, n2, (fl n).map (Value.int .i64)⟩, ⟨88, 5, .slice z3 n3 k3, n3, flH h⟩] ++ oRow (.slice (some ⟨g6, 0, none⟩) (k + 1) c6) (us ++ [Value.slice b5 q d5]) :: pRows (us ++ [Value.slice b5 q d5]) p (k + 1))) := (by
            have e9 : pRows (us ++ [Value.slice b5 q d5]) p (k + 1) = pRows us p k ++ [dRow (.slice b5 q d5) (dAt p k)] := by
              have := pRows_snoc (us := us) (p := p) (.slice b5 q d5)
              rw [HU.out] at this
              exact this
            rw [e9]
            have A8 := Own.set (A := []) (r := bRow bx [.int .i64 ph, .int .i64 cu, .slice z1 n1 k1, .slice z2 n2 k2, .slice z3 n3 k3, .slice a k c]) (r' := bRow bx [.int .i64 ph, .int .i64 cu, .slice z1 n1 k1, .slice z2 n2 k2, .slice z3 n3 k3, .slice (some ⟨g6, 0, none⟩) (k + 1) c6]) (B := [⟨52, 4, .slice z1 n1 k1, n1, flR d⟩, ⟨57, 2, .slice z2 n2 k2, n2, (fl n).map (Value.int .i64)⟩, ⟨88, 5, .slice z3 n3 k3, n3, flH h⟩] ++ oRow (.slice (some ⟨g6, 0, none⟩) (k + 1) c6) (us ++ [Value.slice b5 q d5]) :: (pRows us p k ++ [dRow (.slice b5 q d5) (dAt p k)])) O6 rfl t6 s6
            exact A8.wide (Nat.le_refl _) (by simp) : Own W.heap.size (w6.setCell ⟨bx, 5, none⟩ (.slice (some ⟨g6, 0, none⟩) (k + 1) c6)).heap.size (w6.setCell ⟨bx, 5, none⟩ (.slice (some ⟨g6, 0, none⟩) (k + 1) c6)) ([bRow bx [.int .i64 ph, .int .i64 cu, .slice z1 n1 k1, .slice z2 n2 k2, .slice z3 n3 k3, .slice (some ⟨g6, 0, none⟩) (k + 1) c6], ⟨52, 4, .slice z1 n1 k1, n1, flR d⟩, ⟨57, 2, .slice z2 n2 k2, n2, (fl n).map (Value.int .i64)⟩, ⟨88, 5, .slice z3 n3 k3, n3, flH h⟩] ++ oRow (.slice (some ⟨g6, 0, none⟩) (k + 1) c6) (us ++ [Value.slice b5 q d5]) :: pRows (us ++ [Value.slice b5 q d5]) p (k + 1)))
          have HU7 : Hid ((us ++ [Value.slice b5 q d5]).length = k + 1) := (by rw [List.length_append, HU.out]; rfl : (us ++ [Value.slice b5 q d5]).length = k + 1)
          go_simp
          refine hK.out _ _ (after_mk hcur) (fun hHeld => ?_)
          clear hK K
          skip
          refine wpAnyH_done (by kernel_rfl) ?_ _
          have HB7 : Hid (Below W.heap.size W (w6.setCell ⟨bx, 5, none⟩ (.slice (some ⟨g6, 0, none⟩) (k + 1) c6))) := hcur
          clear O6 hob6 f6 c6x s6 t6 hcur hbx hHeld HRO HNB HB5 hL9 o6 gr6 hk6
          go_wp2
          go_roundw
          case rel => exact ⟨k + 1, (us ++ [Value.slice b5 q d5]), some ⟨g6, 0, none⟩, c6, by omega, by go_num, HU7, HB7, HO7⟩
          case measure => simp [intOf]; omega
        · go_simp
          refine (hL9 _ hbx).mono ?_
          rintro e w5 ⟨b5, d5, rfl, hb5, o5⟩
          have HV5 : Hid (V0.heap.size ≤ w5.heap.size ∧ wr.heap.size ≤ V0.heap.size ∧ w5.ownsRow V0.heap.size 52 4 (.slice b5 q d5) q (flR (dAt p k))) := ⟨hb5.size, hbx.size, o5⟩
          have hbx := below_after_of hbx hb5
          have hcur := below_after_of hcur hb5
          clear hb5 o5
          refine hK.out _ _ (after_mk hcur) (fun hHeld => ?_)
          clear hK K
          try simp only [Act.put, List.setIfInBounds_toArray, List.set_cons_zero, List.set_cons_succ]
          have hb5w : Below wr.heap.size wr w5 := hbx
          refine wpAnyH_ready (rs := [1, 8]) (by kernel_rfl) (by simp) ?_
          refine AllReadyH.cons rfl (fun K hK => ?_) (AllReadyH.cons rfl (fun K hK => ?_) AllReadyH.nil)
          · have f1 := HB5.out _ hbx
            go_simp
            refine hK.out _ _ (after_mk hcur) (fun hHeld => ?_)
            clear hK K
            try simp only [Act.put, List.setIfInBounds_toArray, List.set_cons_zero, List.set_cons_succ]
            clear f1
            refine wpAnyH_ready (rs := [8]) (by kernel_rfl) (by simp) ?_
            refine AllReadyH.cons rfl (fun K hK => ?_) AllReadyH.nil
            go_simp
            have hbx := hbx.alloc hbx.size (.cells #[.slice b5 q d5] 33)
            have hcur := hcur.alloc hcur.size (.cells #[.slice b5 q d5] 33)
            refine hK.out _ _ (after_mk hcur) (fun hHeld => ?_)
            clear hK K
            try simp only [Act.put, List.setIfInBounds_toArray, List.set_cons_zero, List.set_cons_succ]
            refine wpAnyH_ready (rs := [9]) (by kernel_rfl) (by simp) ?_
            refine AllReadyH.cons rfl (fun K hK => ?_) AllReadyH.nil
            refine step_append_at (by rfl) _ _ _ (by rfl) W.heap.size 33 i0 (.agg #[.slice none 0 0]) 1 24 Tryz.underlying36 hi hz0 hz1 hz2 rfl (by decide) (.slice a k c) k us (by rfl) (HRO.out _ hbx) ⟨w5.heap.size, 0, none⟩ 1 [.slice b5 q d5] (by rfl) (by rfl) (World.news_of_block (heap_alloc_new _ _)) (by intro u hu; rw [List.mem_singleton] at hu; subst hu; rfl) (by unfold maxLen; omega) (by omega) hcur.size ?_
            intro g6 c6 w6 o6 gr6 hk6
            have hcur := hcur.grown gr6 hcur.size (fun x hx => HNB.out x hx)
            refine hK.out _ _ (after_mk hcur) (fun hHeld => ?_)
            clear hK K
            try simp only [Act.put, List.setIfInBounds_toArray]
            refine h_take (i := 10) (d := some 38) (v := ?vl8) (by rfl) (by kernel_rfl) (by kernel_rfl) (by kernel_rfl) (fun _ _ _ h => h) (by rfl) ?hyl8 hHeld ?restl8
            case hyl8 =>
              intro o ho
              simp only [List.getElem?_toArray, List.getElem?_cons_succ, List.getElem?_cons_zero, Option.some.injEq] at ho
              subst ho
              rintro _ ⟨nw, rfl⟩
              first | (go_simp; done) | (go_simp; with_reducible rfl)
            try simp only [Act.put]
            have O6 : Own W.heap.size w6.heap.size w6 ([bRow bx [.int .i64 ph, .int .i64 cu, .slice z1 n1 k1, .slice z2 n2 k2, .slice z3 n3 k3, .slice a k c], ⟨52, 4, .slice z1 n1 k1, n1, flR d⟩, ⟨57, 2, .slice z2 n2 k2, n2, (fl n).map (Value.int .i64)⟩, ⟨88, 5, .slice z3 n3 k3, n3, flH h⟩] ++ oRow (.slice (some ⟨g6, 0, none⟩) (k + 1) c6) (us ++ [Value.slice b5 q d5]) :: (pRows us p k ++ [dRow (.slice b5 q d5) (dAt p k)])) := by
              have A5 := (HO.out.below hb5w).wide (hi' := V0.heap.size) (Nat.le_refl _) HV5.out.2.1
              have X5 : Own V0.heap.size w5.heap.size w5 [dRow (.slice b5 q d5) (dAt p k)] := Own.single (by
                show w5.ownsRow V0.heap.size 52 4 (.slice b5 q d5) (dAt p k).length (flR (dAt p k))
                rw [← HQ.out]
                exact HV5.out.2.2) (Nat.le_refl _)
              have A6 := A5.app X5 (by have := HSZ.out; have := HV5.out.2.1; omega) HV5.out.1
              rw [List.append_assoc, List.cons_append] at A6
              have A7 := A6.below (one_new (.cells #[.slice b5 q d5] 33))
              refine Own.grow (A := [bRow bx [.int .i64 ph, .int .i64 cu, .slice z1 n1 k1, .slice z2 n2 k2, .slice z3 n3 k3, .slice a k c], ⟨52, 4, .slice z1 n1 k1, n1, flR d⟩, ⟨57, 2, .slice z2 n2 k2, n2, (fl n).map (Value.int .i64)⟩, ⟨88, 5, .slice z3 n3 k3, n3, flH h⟩]) (r := oRow (.slice a k c) us) (g := g6) A7 gr6 ?_ rfl hk6 (by simp) (by have := HSZ.out; have := HV5.out.1; have := HV5.out.2.1; simp; omega)
              show w6.ownsRow W.heap.size 33 1 (.slice (some ⟨g6, 0, none⟩) (k + 1) c6) (us ++ [Value.slice b5 q d5]).length (us ++ [Value.slice b5 q d5])
              rw [List.length_append, HU.out]
              exact o6
            have hob6 : w6.ownsRow W.heap.size 38 6 (.slice (some ⟨bx, 0, none⟩) 1 1) 1 [.int .i64 ph, .int .i64 cu, .slice z1 n1 k1, .slice z2 n2 k2, .slice z3 n3 k3, .slice a k c] := O6.own _ (List.Mem.head _)
            have f6 := hob6.frozenAt 5
            have c6x := hob6.cellAt 5 (by omega)
            simp only [List.getElem?_cons_zero, List.getElem?_cons_succ] at c6x
            refine wpAnyH_ready (rs := [11]) (by kernel_rfl) (by simp) ?_
            refine AllReadyH.cons rfl (fun K hK => ?_) AllReadyH.nil
            obtain ⟨s6, t6⟩ := hob6.stored 5 (.slice (some ⟨g6, 0, none⟩) (k + 1) c6)
            have hcur := hcur.setCell (p := ⟨bx, 5, none⟩) hbx0.1 (.slice (some ⟨g6, 0, none⟩) (k + 1) c6)
            have HO7 : Hid (Own W.heap.size (w6.setCell ⟨bx, 5, none⟩ (.slice (some ⟨g6, 0, none⟩) (k + 1) c6)).heap.size (w6.setCell ⟨bx, 5, none⟩ (.slice (some ⟨g6, 0, none⟩) (k + 1) c6)) ([bRow bx [.int .i64 ph, .int .i64 cu, .slice z1 n1 k1, .slice z2 n2 k2, .slice z3 n3 k3, .slice (some ⟨g6, 0, none⟩) (k + 1) c6], ⟨52, 4, .slice z1 n1 k1, n1, flR d⟩, ⟨57, 2, .slice z2 n2 k2, n2, (fl n).map (Value.int .i64)⟩, ⟨88, 5, .slice z3 n3 k3, n3, flH h⟩] ++ oRow (.slice (some ⟨g6, 0, none⟩) (k + 1) c6) (us ++ [Value.slice b5 q d5]) :: pRows (us ++ [Value.slice b5 q d5]) p (k + 1))) := (by
              have e9 : pRows (us ++ [Value.slice b5 q d5]) p (k + 1) = pRows us p k ++ [dRow (.slice b5 q d5) (dAt p k)] := by
                have := pRows_snoc (us := us) (p := p) (.slice b5 q d5)
                rw [HU.out] at this
                exact this
              rw [e9]
              have A8 := Own.set (A := []) (r := bRow bx [.int .i64 ph, .int .i64 cu, .slice z1 n1 k1, .slice z2 n2 k2, .slice z3 n3 k3, .slice a k c]) (r' := bRow bx [.int .i64 ph, .int .i64 cu, .slice z1 n1 k1, .slice z2 n2 k2, .slice z3 n3 k3, .slice (some ⟨g6, 0, none⟩) (k + 1) c6]) (B := [⟨52, 4, .slice z1 n1 k1, n1, flR d⟩, ⟨57, 2, .slice z2 n2 k2, n2, (fl n).map (Value.int .i64)⟩, ⟨88, 5, .slice z3 n3 k3, n3, flH h⟩] ++ oRow (.slice (some ⟨g6, 0, none⟩) (k + 1) c6) (us ++ [Value.slice b5 q d5]) :: (pRows us p k ++ [dRow (.slice b5 q d5) (dAt p k)])) O6 rfl t6 s6
              exact A8.wide (Nat.le_refl _) (by simp) : Own W.heap.size (w6.setCell ⟨bx, 5, none⟩ (.slice (some ⟨g6, 0, none⟩) (k + 1) c6)).heap.size (w6.setCell ⟨bx, 5, none⟩ (.slice (some ⟨g6, 0, none⟩) (k + 1) c6)) ([bRow bx [.int .i64 ph, .int .i64 cu, .slice z1 n1 k1, .slice z2 n2 k2, .slice z3 n3 k3, .slice (some ⟨g6, 0, none⟩) (k + 1) c6], ⟨52, 4, .slice z1 n1 k1, n1, flR d⟩, ⟨57, 2, .slice z2 n2 k2, n2, (fl n).map (Value.int .i64)⟩, ⟨88, 5, .slice z3 n3 k3, n3, flH h⟩] ++ oRow (.slice (some ⟨g6, 0, none⟩) (k + 1) c6) (us ++ [Value.slice b5 q d5]) :: pRows (us ++ [Value.slice b5 q d5]) p (k + 1)))
            have HU7 : Hid ((us ++ [Value.slice b5 q d5]).length = k + 1) := (by rw [List.length_append, HU.out]; rfl : (us ++ [Value.slice b5 q d5]).length = k + 1)
            go_simp
            refine hK.out _ _ (after_mk hcur) (fun hHeld => ?_)
            clear hK K
            skip
            refine wpAnyH_done (by kernel_rfl) ?_ _
            have HB7 : Hid (Below W.heap.size W (w6.setCell ⟨bx, 5, none⟩ (.slice (some ⟨g6, 0, none⟩) (k + 1) c6))) := hcur
            clear O6 hob6 f6 c6x s6 t6 hcur hbx hHeld HRO HNB HB5 hL9 o6 gr6 hk6
            go_wp2
            go_roundw
            case rel => exact ⟨k + 1, (us ++ [Value.slice b5 q d5]), some ⟨g6, 0, none⟩, c6, by omega, by go_num, HU7, HB7, HO7⟩
            case measure => simp [intOf]; omega
          · go_simp
            have hbx := hbx.alloc hbx.size (.cells #[.slice b5 q d5] 33)
            have hcur := hcur.alloc hcur.size (.cells #[.slice b5 q d5] 33)
            refine hK.out _ _ (after_mk hcur) (fun hHeld => ?_)
            clear hK K
            try simp only [Act.put, List.setIfInBounds_toArray, List.set_cons_zero, List.set_cons_succ]
            refine wpAnyH_ready (rs := [1]) (by kernel_rfl) (by simp) ?_
            refine AllReadyH.cons rfl (fun K hK => ?_) AllReadyH.nil
            have f1 := HB5.out _ hbx
            go_simp
            refine hK.out _ _ (after_mk hcur) (fun hHeld => ?_)
            clear hK K
            try simp only [Act.put, List.setIfInBounds_toArray, List.set_cons_zero, List.set_cons_succ]
            clear f1
            refine wpAnyH_ready (rs := [9]) (by kernel_rfl) (by simp) ?_
            refine AllReadyH.cons rfl (fun K hK => ?_) AllReadyH.nil
            refine step_append_at (by rfl) _ _ _ (by rfl) W.heap.size 33 i0 (.agg #[.slice none 0 0]) 1 24 Tryz.underlying36 hi hz0 hz1 hz2 rfl (by decide) (.slice a k c) k us (by rfl) (HRO.out _ hbx) ⟨w5.heap.size, 0, none⟩ 1 [.slice b5 q d5] (by rfl) (by rfl) (World.news_of_block (heap_alloc_new _ _)) (by intro u hu; rw [List.mem_singleton] at hu; subst hu; rfl) (by unfold maxLen; omega) (by omega) hcur.size ?_
            intro g6 c6 w6 o6 gr6 hk6
            have hcur := hcur.grown gr6 hcur.size (fun x hx => HNB.out x hx)
            refine hK.out _ _ (after_mk hcur) (fun hHeld => ?_)
            clear hK K
            try simp only [Act.put, List.setIfInBounds_toArray]
            refine h_take (i := 10) (d := some 38) (v := ?vl9) (by rfl) (by kernel_rfl) (by kernel_rfl) (by kernel_rfl) (fun _ _ _ h => h) (by rfl) ?hyl9 hHeld ?restl9
            case hyl9 =>
              intro o ho
              simp only [List.getElem?_toArray, List.getElem?_cons_succ, List.getElem?_cons_zero, Option.some.injEq] at ho
              subst ho
              rintro _ ⟨nw, rfl⟩
              first | (go_simp; done) | (go_simp; with_reducible rfl)
            try simp only [Act.put]
            have O6 : Own W.heap.size w6.heap.size w6 ([bRow bx [.int .i64 ph, .int .i64 cu, .slice z1 n1 k1, .slice z2 n2 k2, .slice z3 n3 k3, .slice a k c], ⟨52, 4, .slice z1 n1 k1, n1, flR d⟩, ⟨57, 2, .slice z2 n2 k2, n2, (fl n).map (Value.int .i64)⟩, ⟨88, 5, .slice z3 n3 k3, n3, flH h⟩] ++ oRow (.slice (some ⟨g6, 0, none⟩) (k + 1) c6) (us ++ [Value.slice b5 q d5]) :: (pRows us p k ++ [dRow (.slice b5 q d5) (dAt p k)])) := by
              have A5 := (HO.out.below hb5w).wide (hi' := V0.heap.size) (Nat.le_refl _) HV5.out.2.1
              have X5 : Own V0.heap.size w5.heap.size w5 [dRow (.slice b5 q d5) (dAt p k)] := Own.single (by
                show w5.ownsRow V0.heap.size 52 4 (.slice b5 q d5) (dAt p k).length (flR (dAt p k))
                rw [← HQ.out]
                exact HV5.out.2.2) (Nat.le_refl _)
              have A6 := A5.app X5 (by have := HSZ.out; have := HV5.out.2.1; omega) HV5.out.1
              rw [List.append_assoc, List.cons_append] at A6
              have A7 := A6.below (one_new (.cells #[.slice b5 q d5] 33))
              refine Own.grow (A := [bRow bx [.int .i64 ph, .int .i64 cu, .slice z1 n1 k1, .slice z2 n2 k2, .slice z3 n3 k3, .slice a k c], ⟨52, 4, .slice z1 n1 k1, n1, flR d⟩, ⟨57, 2, .slice z2 n2 k2, n2, (fl n).map (Value.int .i64)⟩, ⟨88, 5, .slice z3 n3 k3, n3, flH h⟩]) (r := oRow (.slice a k c) us) (g := g6) A7 gr6 ?_ rfl hk6 (by simp) (by have := HSZ.out; have := HV5.out.1; have := HV5.out.2.1; simp; omega)
              show w6.ownsRow W.heap.size 33 1 (.slice (some ⟨g6, 0, none⟩) (k + 1) c6) (us ++ [Value.slice b5 q d5]).length (us ++ [Value.slice b5 q d5])
              rw [List.length_append, HU.out]
              exact o6
            have hob6 : w6.ownsRow W.heap.size 38 6 (.slice (some ⟨bx, 0, none⟩) 1 1) 1 [.int .i64 ph, .int .i64 cu, .slice z1 n1 k1, .slice z2 n2 k2, .slice z3 n3 k3, .slice a k c] := O6.own _ (List.Mem.head _)
            have f6 := hob6.frozenAt 5
            have c6x := hob6.cellAt 5 (by omega)
            simp only [List.getElem?_cons_zero, List.getElem?_cons_succ] at c6x
            refine wpAnyH_ready (rs := [11]) (by kernel_rfl) (by simp) ?_
            refine AllReadyH.cons rfl (fun K hK => ?_) AllReadyH.nil
            obtain ⟨s6, t6⟩ := hob6.stored 5 (.slice (some ⟨g6, 0, none⟩) (k + 1) c6)
            have hcur := hcur.setCell (p := ⟨bx, 5, none⟩) hbx0.1 (.slice (some ⟨g6, 0, none⟩) (k + 1) c6)
            have HO7 : Hid (Own W.heap.size (w6.setCell ⟨bx, 5, none⟩ (.slice (some ⟨g6, 0, none⟩) (k + 1) c6)).heap.size (w6.setCell ⟨bx, 5, none⟩ (.slice (some ⟨g6, 0, none⟩) (k + 1) c6)) ([bRow bx [.int .i64 ph, .int .i64 cu, .slice z1 n1 k1, .slice z2 n2 k2, .slice z3 n3 k3, .slice (some ⟨g6, 0, none⟩) (k + 1) c6], ⟨52, 4, .slice z1 n1 k1, n1, flR d⟩, ⟨57, 2, .slice z2 n2 k2, n2, (fl n).map (Value.int .i64)⟩, ⟨88, 5, .slice z3 n3 k3, n3, flH h⟩] ++ oRow (.slice (some ⟨g6, 0, none⟩) (k + 1) c6) (us ++ [Value.slice b5 q d5]) :: pRows (us ++ [Value.slice b5 q d5]) p (k + 1))) := (by
              have e9 : pRows (us ++ [Value.slice b5 q d5]) p (k + 1) = pRows us p k ++ [dRow (.slice b5 q d5) (dAt p k)] := by
                have := pRows_snoc (us := us) (p := p) (.slice b5 q d5)
                rw [HU.out] at this
                exact this
              rw [e9]
              have A8 := Own.set (A := []) (r := bRow bx [.int .i64 ph, .int .i64 cu, .slice z1 n1 k1, .slice z2 n2 k2, .slice z3 n3 k3, .slice a k c]) (r' := bRow bx [.int .i64 ph, .int .i64 cu, .slice z1 n1 k1, .slice z2 n2 k2, .slice z3 n3 k3, .slice (some ⟨g6, 0, none⟩) (k + 1) c6]) (B := [⟨52, 4, .slice z1 n1 k1, n1, flR d⟩, ⟨57, 2, .slice z2 n2 k2, n2, (fl n).map (Value.int .i64)⟩, ⟨88, 5, .slice z3 n3 k3, n3, flH h⟩] ++ oRow (.slice (some ⟨g6, 0, none⟩) (k + 1) c6) (us ++ [Value.slice b5 q d5]) :: (pRows us p k ++ [dRow (.slice b5 q d5) (dAt p k)])) O6 rfl t6 s6
              exact A8.wide (Nat.le_refl _) (by simp) : Own W.heap.size (w6.setCell ⟨bx, 5, none⟩ (.slice (some ⟨g6, 0, none⟩) (k + 1) c6)).heap.size (w6.setCell ⟨bx, 5, none⟩ (.slice (some ⟨g6, 0, none⟩) (k + 1) c6)) ([bRow bx [.int .i64 ph, .int .i64 cu, .slice z1 n1 k1, .slice z2 n2 k2, .slice z3 n3 k3, .slice (some ⟨g6, 0, none⟩) (k + 1) c6], ⟨52, 4, .slice z1 n1 k1, n1, flR d⟩, ⟨57, 2, .slice z2 n2 k2, n2, (fl n).map (Value.int .i64)⟩, ⟨88, 5, .slice z3 n3 k3, n3, flH h⟩] ++ oRow (.slice (some ⟨g6, 0, none⟩) (k + 1) c6) (us ++ [Value.slice b5 q d5]) :: pRows (us ++ [Value.slice b5 q d5]) p (k + 1)))
            have HU7 : Hid ((us ++ [Value.slice b5 q d5]).length = k + 1) := (by rw [List.length_append, HU.out]; rfl : (us ++ [Value.slice b5 q d5]).length = k + 1)
            go_simp
            refine hK.out _ _ (after_mk hcur) (fun hHeld => ?_)
            clear hK K
            skip
            refine wpAnyH_done (by kernel_rfl) ?_ _
            have HB7 : Hid (Below W.heap.size W (w6.setCell ⟨bx, 5, none⟩ (.slice (some ⟨g6, 0, none⟩) (k + 1) c6))) := hcur
            clear O6 hob6 f6 c6x s6 t6 hcur hbx hHeld HRO HNB HB5 hL9 o6 gr6 hk6
            go_wp2
            go_roundw
            case rel => exact ⟨k + 1, (us ++ [Value.slice b5 q d5]), some ⟨g6, 0, none⟩, c6, by omega, by go_num, HU7, HB7, HO7⟩
            case measure => simp [intOf]; omega
      · have hkm : k = m := by omega
        subst hkm
        have hob : wr.ownsRow W.heap.size 38 6 (.slice (some ⟨bx, 0, none⟩) 1 1) 1 [.int .i64 ph, .int .i64 cu, .slice z1 n1 k1, .slice z2 n2 k2, .slice z3 n3 k3, .slice a k c] := HO.out.own _ (List.Mem.head _)
        have e0 := hob.cellAt 0 (by omega)
        have e1 := hob.cellAt 1 (by omega)
        have e2 := hob.cellAt 2 (by omega)
        have e3 := hob.cellAt 3 (by omega)
        have e4 := hob.cellAt 4 (by omega)
        have e5 := hob.cellAt 5 (by omega)
        simp only [List.getElem?_cons_zero, List.getElem?_cons_succ] at e0 e1 e2 e3 e4 e5
        obtain ⟨⟨v0, v1, v2, v3, v4, v5⟩, g0, g1, g2, g3, g4, g5⟩ := six_cellsS (HI0.out.below HB.out).res
        have hlt4 := (HI0.out.below HB.out).lt
        have hbW : W.heap.size ≤ bx := (own_blk hob rfl).1
        have hNW : w.heap.size + 1 < W.heap.size := HI0.out.lt
        have hbn : bx ≠ w.heap.size + 1 := by omega
        have hbn' : w.heap.size + 1 ≠ bx := by omega
        go_wp2
        refine bodyPost_ret (v := .agg #[.int .i64 ph, .int .i64 cu, .slice z1 n1 k1, .slice z2 n2 k2, .slice z3 n3 k3, .slice a k c]) (by simp [results, Tryz.results72, go_sem, v0, v1, v2, v3, v4, v5]) rfl ⟨⟨.slice z1 n1 k1, .slice z2 n2 k2, .slice z3 n3 k3, .slice a k c⟩, us, rfl, ?_, ?_⟩
        · have hwr := below_after_of HBW.out HB.out
          exact (((((hwr.setCell (Nat.le_succ _) _).setCell (Nat.le_succ _) _).setCell (Nat.le_succ _) _).setCell (Nat.le_succ _) _).setCell (Nat.le_succ _) _).setCell (Nat.le_succ _) _
        · have r1 : (⟨52, 4, .slice z1 n1 k1, n1, flR d⟩ : Rw) = dRow (.slice z1 n1 k1) d := by unfold dRow; rw [← HN1.out]
          have r2 : (⟨57, 2, .slice z2 n2 k2, n2, (fl n).map (Value.int .i64)⟩ : Rw) = nRow (.slice z2 n2 k2) n := by unfold nRow; rw [← HN2.out]
          have r3 : (⟨88, 5, .slice z3 n3 k3, n3, flH h⟩ : Rw) = hRow (.slice z3 n3 k3) h := by unfold hRow; rw [← HN3.out]
          have A : StOwn W.heap.size wr.heap.size wr ⟨.slice z1 n1 k1, .slice z2 n2 k2, .slice z3 n3 k3, .slice a k c⟩ us ⟨ph, cu, d, n, h, p⟩ := ⟨by
            have q0 := HO.out
            rw [r1, r2, r3] at q0
            have q1 := Own.right (R := [bRow bx [.int .i64 ph, .int .i64 cu, .slice z1 n1 k1, .slice z2 n2 k2, .slice z3 n3 k3, .slice a k c]]) (S := [dRow (.slice z1 n1 k1) d] ++ ([nRow (.slice z2 n2 k2) n] ++ ([hRow (.slice z3 n3 k3) h] ++ ([oRow (.slice a k c) us] ++ pRows us p k)))) q0
            show Own _ _ _ ([dRow (.slice z1 n1 k1) d] ++ ([nRow (.slice z2 n2 k2) n] ++ ([hRow (.slice z3 n3 k3) h] ++ ([oRow (.slice a k c) us] ++ pRows us p p.length))))
            rw [← HM.out]
            exact q1, by show us.length = p.length; rw [HU.out]; exact HM.out⟩
          have B := (((((A.setCell ⟨w.heap.size + 1, 0, none⟩ hNW (.int .i64 ph)).setCell ⟨w.heap.size + 1, 1, none⟩ hNW (.int .i64 cu)).setCell ⟨w.heap.size + 1, 2, none⟩ hNW (.slice z1 n1 k1)).setCell ⟨w.heap.size + 1, 3, none⟩ hNW (.slice z2 n2 k2)).setCell ⟨w.heap.size + 1, 4, none⟩ hNW (.slice z3 n3 k3)).setCell ⟨w.heap.size + 1, 5, none⟩ hNW (.slice a k c)
          exact B.wide (by omega) (by simp)
end U
end Go.Proofs.YtjhmfaibpnagcaaGreat
