/- The faults of forks, as the program finds them: an iterator that is ranged over, left by a label. -/
import Derived.Test.YtljbcpkjhnbpeaaNp2
import Derived.Test.YtljbcpkjhnbpeaaNpA
namespace Go.Proofs.Ytljbcpkjhnbpeaa
open Go.RowKit Go.Shelf
namespace U
attribute [local go_sem] Oper.semAt_some
theorem grown_blk {w w' : World} {row : Option Nat} {b : Nat} {o : Obj} (hg : w.grownBy w' row) (h : w.heap[b]? = some o) (hne : some b ≠ row) : w'.heap[b]? = some o := (hg.block b (Array.getElem?_eq_some_iff.1 h).1 (fun e => hne e)).trans h
/-- Up to now no fork has a code. -/
structure FI (B N : Nat) (w : World) (pre : List (Int × Int × Int)) (W : World) : Prop where
  f : W.heap[B]? = some (.cells #[.int .i64 0] 2)
  a : ∀ x ∈ pre, fk1 x.1 x.2 = 0
  b : Below B w W
  z : N ≤ W.heap.size
/-- The last one has a code. -/
structure FX (B N : Nat) (w : World) (c : Go.Code) (pre : List (Int × Int × Int)) (W : World) : Prop where
  c : c = .exit 0
  f : ∃ q pre' x, pre = pre' ++ [x] ∧ W.heap[B]? = some (.cells #[.int .i64 q] 2) ∧ q ≠ 0 ∧ (∀ x ∈ pre', fk1 x.1 x.2 = 0) ∧ fk1 x.1 x.2 = q
  b : Below B w W
  z : N ≤ W.heap.size
def gF (f : Prl) (j : Nat) : Int × Int × Int := (ahd f j, (pAt f j).1, (pAt f j).2)
theorem ups_ok {f : Prl} : ∀ {m : Nat}, (∀ x ∈ upTo (gF f) m, fk1 x.1 x.2 = 0) → fkS f m = 0
  | 0, _ => rfl
  | m + 1, h => by
    have h1 := ups_ok (f := f) (m := m) (fun x hx => h x (by rw [upTo_succ]; exact List.mem_append_left _ hx))
    rw [fkS_next h1]
    exact h (gF f m) (by rw [upTo_succ]; exact List.mem_append_right _ (List.mem_singleton.2 rfl))
theorem ups_stop {f : Prl} {k : Nat} {q : Int} {pre pre' : List (Int × Int × Int)} {x : Int × Int × Int} (hp : pre = upTo (gF f) (k + 1)) (h : pre = pre' ++ [x]) (hk : k < f.length) (ha : ∀ x ∈ pre', fk1 x.1 x.2 = 0) (hx : fk1 x.1 x.2 = q) (hq : q ≠ 0) : fkF f = q := by
  rw [hp, upTo_succ] at h
  obtain ⟨rfl, h2⟩ := List.append_inj' h rfl
  cases h2
  exact fkF_stop (ups_ok ha) hk hx hq
theorem ix0 (p q : Bool) (w : World) : (Instr.index 150 (.agg #[.int .i64 3, .bool p, .int .i64 1, .bool q]) (.int .i64 0)).run Try.prog w = .ok (.agg #[.int .i64 3, .bool p]) w := by kernel_rfl
theorem ix1 (p q : Bool) (w : World) : (Instr.index 150 (.agg #[.int .i64 3, .bool p, .int .i64 1, .bool q]) (.int .i64 1)).run Try.prog w = .ok (.agg #[.int .i64 1, .bool q]) w := by kernel_rfl
set_option maxRecDepth 100000 in
set_option maxHeartbeats 4000000 in
theorem forksFault_any (v : Value) (f : Prl) (w : World) (hv : Prs w v f) (hn : f.length ≤ 1000) : Calls Try.prog 58 #[v] w fun e w' => e = .returned (.int .i64 (fkF f)) ∧ Below w.heap.size w w' := by
  have hU := fun w' h => forksUp_any v f w' (hv.below (w' := w') h)
  obtain ⟨ad, c, rfl⟩ := hv.shape
  obtain ⟨len, hlp⟩ : ∃ len, len = f.length := ⟨_, rfl⟩
  have HLP : Hid (len = f.length) := hlp
  rw [← hlp] at hU hn ⊢
  clear hlp
  refine (callsIn_wide (n := 4)).1 (callsIn_of_wp_marks Try.func58 rfl trivial ?_ rfl)
  refine wpIn_wide.2 ?_
  simp only [Try.ntmps58, List.size_toArray, List.length_cons, List.length_nil, Nat.reduceAdd, Nat.reduceSub, Array.replicate_succ, Array.replicate_zero, List.push_toArray, List.append_toArray, List.nil_append, List.cons_append]
  go_wp2
  refine wp_scope_straight ?_
  go_wp2
  refine wp_label ?_
  go_wp2_with fail
  refine (hU _ (one_new _)).mono ?_
  rintro e w1 ⟨rfl, hw1⟩
  have HW1 : Hid (w1 = (w.alloc (.cells #[.int .i64 0] 2)).alloc (.cells #[.slice ad len c] 29)) := hw1
  rw [World.size_alloc]
  clear hw1 hU
  go_wp2
  have HZ1 : Hid (w1.heap.size = w.heap.size + 1 + 1) := (by rw [HW1.out]; simp : w1.heap.size = w.heap.size + 1 + 1)
  have hz1 : w.heap.size < w1.heap.size := by have := HZ1.out; omega
  have hB1 : Below w.heap.size w w1 := by rw [HW1.out]; exact two_new _ _
  have hF1 : w1.heap[w.heap.size]? = some (.cells #[.int .i64 0] 2) := by
    rw [HW1.out]
    exact ((one_new _).block w.heap.size (by simp)).trans (heap_alloc_new w _)
  have hS1 : w1.heap[w.heap.size + 1]? = some (.cells #[.slice ad len c] 29) := by
    have h1 := heap_alloc_new (w.alloc (.cells #[.int .i64 0] 2)) (.cells #[.slice ad len c] 29)
    rw [World.size_alloc] at h1
    rw [HW1.out]
    exact h1
  have HV : Hid (∃ b off, (0 < len → ad = some ⟨b, off, none⟩ ∧ b < w.heap.size) ∧ ∀ j, j < len → w.cell? ⟨b, off + j * 2, none⟩ = some (.int .i64 (pAt f j).1) ∧ w.cell? ⟨b, off + j * 2 + 1, none⟩ = some (.int .i64 (pAt f j).2)) := (by
    have hl := HLP.out
    by_cases h0 : 0 < len
    · obtain ⟨-, b, off, e, hb, hc⟩ := hv.at (by omega)
      exact ⟨b, off, fun _ => ⟨e, hb⟩, fun j hj => hc j (by omega)⟩
    · exact ⟨0, 0, fun h => absurd h h0, fun j hj => by omega⟩ : ∃ b off, _)
  obtain ⟨b, off, hav, hcc⟩ := HV.out
  clear HV hv
  refine (wpIn_wide (n := 4)).1 ?_
  refine wpIn_rangeFunc_ownH (α := Int × Int × Int) rfl (by decide) (gf := 105) (lb := #[.pointer (some ⟨w.heap.size + 1, 0, none⟩)]) rfl trivial (enters_of Try.func105 (by kernel_rfl) rfl)
    (forksUp_stops (w := w1) 3 (by decide) w.heap.size (w.heap.size + 1) b off len c ad f (gF f) (fun x => #[.int .i64 x.1, .agg #[.int .i64 x.2.1, .int .i64 x.2.2]]) HLP hn ?hX ?hav (fun _ _ => rfl) (by omega) hS1 ?hc)
    KpX.trans ?hKb (Below.refl _ _) (fun _ => rfl)
    (FI w.heap.size w1.heap.size w)
    (FX w.heap.size w1.heap.size w) ?hI ?hIx ?h0
    (fun x a' W => ∃ Bx, w1.heap.size ≤ Bx ∧ W.heap[Bx]? = some (.cells #[.int .i64 x.2.1, .int .i64 x.2.2] 52) ∧ a' = { tmps := #[.slice ad len c, undef, .int .i64 0, .pointer (some ⟨w.heap.size, 0, none⟩), .int .i64 x.1, .pointer (some ⟨Bx, 0, none⟩), undef, undef, .slice ad len c, .func (.func 105) #[] #[.pointer (some ⟨w.heap.size + 1, 0, none⟩)], .int .i64 x.1, .agg #[.int .i64 x.2.1, .int .i64 x.2.2], undef, undef, undef, undef, undef, undef, undef, undef, undef, undef, undef, undef], defers := [] }) ?hAx ?assign ?body ?done ?stop
  case hX => exact fun h e => by have := (hav h).2; omega
  case hav => exact fun h => ⟨(hav h).1, by have := (hav h).2; omega⟩
  case hc => exact fun j hj => ⟨(hB1.cell (p := ⟨b, off + j * 2, none⟩) (hav (by omega)).2).trans (hcc j hj).1, (hB1.cell (p := ⟨b, off + j * 2 + 1, none⟩) (hav (by omega)).2).trans (hcc j hj).2⟩
  case hKb => exact fun W l o o' _ h h1 _ => KpX.put W l o o' h h1
  case hI =>
    rintro pre A B row ⟨h1, h2, h3, h4⟩ hg hr
    exact ⟨grown_blk hg h1 (fun e => by have := (hr _ e.symm).1; have := HZ1.out; omega), h2, h3.grown hg h3.size (fun k hk => by have := (hr k hk).1; have := HZ1.out; omega), Nat.le_trans h4 hg.size⟩
  case hIx =>
    rintro c' pre A B row ⟨e, ⟨q, pre', x, h0, h1, h2, h3, h4⟩, h5, h6⟩ hg hr
    exact ⟨e, ⟨q, pre', x, h0, grown_blk hg h1 (fun e => by have := (hr _ e.symm).1; have := HZ1.out; omega), h2, h3, h4⟩, h5.grown hg h5.size (fun k hk => by have := (hr k hk).1; have := HZ1.out; omega), Nat.le_trans h6 hg.size⟩
  case h0 => exact ⟨hF1, (fun x hx => by cases hx), hB1, Nat.le_refl _⟩
  case hAx =>
    rintro x a' - A B row ⟨Bx, h1, h2, h3⟩ hg hr
    refine ⟨Bx, h1, grown_blk hg h2 (fun e => ?_), h3⟩
    obtain ⟨-, o, ho, hn⟩ := hr Bx e.symm
    rw [h2] at ho
    cases ho
    simp [Obj.isCells] at hn
  case assign =>
    rintro l' pre x W K ⟨h1, h2, h3, h4⟩ hK
    gi_wp2
    exact hK _ _ ((KeepsOthers.alloc _ _).from _) (KpX.of_below (one_new _)) ⟨((one_new _).block _ (Array.getElem?_eq_some_iff.1 h1).1).trans h1, h2, h3.alloc h3.size _, Nat.le_trans h4 (one_new _).size⟩ ⟨W.heap.size, h4, heap_alloc_new W _, rfl⟩
  case body =>
    rintro l' pre x a' W hl ⟨r, hr⟩ ⟨h1, h2, h3, h4⟩ ⟨Bx, hBx, hbk, rfl⟩ hlt
    obtain ⟨xa, xb, xo⟩ := x
    obtain ⟨k0, k1, -, -⟩ := two_cellsV hbk
    have hC := fun w => forkCodes_any xa xb xo w
    dsimp only
    obtain ⟨u, hu⟩ : ∃ u, u = !fkB (xb, xo) := ⟨_, rfl⟩
    obtain ⟨z, hz⟩ : ∃ z, z = decide (xb ≤ xa) := ⟨_, rfl⟩
    have HU : Hid (u = !fkB (xb, xo)) := hu
    have HZ : Hid (z = decide (xb ≤ xa)) := hz
    rw [← hu, ← hz] at hC
    clear hu hz
    gi_wp2_with (refine ⟨trivial, ?_⟩; gi_at_call 99; refine (CallsIn.inRound l' (callsIn_wide.2 (hC _))).mono ?_; rintro e Wc ⟨rfl, hbc⟩)
    have hKc : Hid (KeepsFrom w1.heap.size W Wc ∧ KpX w.heap.size W Wc) := ⟨⟨hbc.size, fun k o _ hk _ => (hbc.block k (Array.getElem?_eq_some_iff.1 hk).1).trans hk⟩, KpX.of_below hbc⟩
    have hFc : Wc.heap[w.heap.size]? = some (.cells #[.int .i64 0] 2) := (hbc.block _ (by omega)).trans h1
    have hBc : Hid (Below w.heap.size w Wc) := below_after_of h3 hbc
    have hzc : w1.heap.size ≤ Wc.heap.size := Nat.le_trans h4 hbc.size
    have H2 : Hid (∀ x ∈ pre, fk1 x.1 x.2 = 0) := h2
    clear hbc hbk k0 k1 h1 h2 h3 hC
    gi_loopw [15] (fun i wr => ∃ k : Nat, k ≤ 2 ∧ i = .int .i64 (k : Int) ∧ Hid (1 ≤ k → u = false) ∧ Hid (2 ≤ k → z = false) ∧ Hid (Below Wc.heap.size Wc wr)) (fun i _ => 2 - (intOf i).toNat)
    case atStart => exact ⟨0, Nat.zero_le _, rfl, (fun h => by omega), (fun h => by omega), Below.refl _ _⟩
    case round =>
      obtain ⟨k, hk, rfl, hu, hz, hB⟩ := hrel
      have hFr : wr.heap[w.heap.size]? = some (.cells #[.int .i64 0] 2) := (hB.out.block _ (by omega)).trans hFc
      have hcF := box1_cell hFr
      have hfz : wr.frozen? ⟨w.heap.size, 0, none⟩ = false := by unfold World.frozen?; rw [hFr]; rfl
      have HEX : Hid (∀ (q : Int) (o : Obj), q ≠ 0 → fk1 xa (xb, xo) = q → KeepsFrom w1.heap.size W ((wr.alloc o).setCell ⟨w.heap.size, 0, none⟩ (.int .i64 q)) ∧ FX w.heap.size w1.heap.size w (.exit 0) (pre ++ [(xa, xb, xo)]) ((wr.alloc o).setCell ⟨w.heap.size, 0, none⟩ (.int .i64 q))) := by
        intro q o hq hk1
        have hBo := hB.out.alloc hB.out.size o
        refine ⟨⟨?_, fun k ob hk hkb hno => ?_⟩, rfl, ⟨q, pre, _, rfl, ?_, hq, H2.out, hk1⟩, (below_after_of hBc.out hBo).setCell (Nat.le_refl _) _, ?_⟩
        · rw [World.size_setCell]; exact Nat.le_trans hKc.out.1.size hBo.size
        · rw [heap_setCell_other _ _ _ _ (show k ≠ w.heap.size by omega)]
          have := hKc.out.1.same k ob hk hkb hno
          exact (hBo.block k (Array.getElem?_eq_some_iff.1 this).1).trans this
        · exact heap_setCell_same _ _ 0 _ _ _ ((hBo.block _ (by omega)).trans hFc)
        · rw [World.size_setCell]; exact Nat.le_trans hzc hBo.size
      have hFa : ∀ o, (wr.alloc o).cell? ⟨w.heap.size, 0, none⟩ = some (.int .i64 0) ∧ (wr.alloc o).frozen? ⟨w.heap.size, 0, none⟩ = false := fun o => by
        have h : (wr.alloc o).heap[w.heap.size]? = some (.cells #[.int .i64 0] 2) := ((one_new _).block _ (Array.getElem?_eq_some_iff.1 hFr).1).trans hFr
        exact ⟨box1_cell h, by unfold World.frozen?; rw [h]; rfl⟩
      rcases (show k = 0 ∨ k = 1 ∨ k = 2 by omega) with rfl | rfl | rfl
      · have hi := fun w => ix0 u z w
        obtain ⟨g0, g1⟩ := hFa (.cells #[.int .i64 3, .bool true] 149)
        cases u
        · gi_wp2
          go_roundw
          case rel => exact ⟨1, by omega, rfl, (fun _ => by simp), (fun h => by omega), hB.out.alloc hB.out.size _⟩
          case measure => simp [intOf]
        · gi_wp2
          exact HEX.out 3 _ (by decide) (fk1_no (by have := HU.out; simpa using this))
      · have hi := fun w => ix1 u z w
        obtain ⟨g0, g1⟩ := hFa (.cells #[.int .i64 1, .bool true] 149)
        have hu1 : Hid (u = false) := hu.out (by omega)
        cases z
        · gi_wp2
          go_roundw
          case rel => exact ⟨2, by omega, rfl, (fun _ => hu1.out), (fun _ => by simp), hB.out.alloc hB.out.size _⟩
          case measure => simp [intOf]
        · gi_wp2
          exact HEX.out 1 _ (by decide) (fk1_low (by have := HU.out; rw [hu1.out] at this; simpa using this) (by have := HZ.out; simpa using this))
      · have hu1 := hu.out (by omega)
        have hz1 := hz.out (by omega)
        have hOK : Hid (fk1 xa (xb, xo) = 0) := fk1_ok (by have := HU.out; rw [hu1] at this; simpa using this) (by have := HZ.out; rw [hz1] at this; simpa using this)
        clear hu1 hz1 hu hz
        gi_wp2
        refine ⟨⟨Nat.le_trans hKc.out.1.size hB.out.size, fun k ob hk hkb hno => ?_⟩, hKc.out.2.trans (KpX.of_below hB.out), hFr, fun x hx => ?_, below_after_of hBc.out hB.out, Nat.le_trans hzc hB.out.size⟩
        · have := hKc.out.1.same k ob hk hkb hno
          exact (hB.out.block k (Array.getElem?_eq_some_iff.1 this).1).trans this
        · rcases List.mem_append.1 hx with hx | hx
          · exact H2.out x hx
          · rw [List.mem_singleton.1 hx]; exact hOK.out
  case done =>
    rintro D ys W hD rfl ⟨h1, h2, h3, h4⟩ hKD
    have HF0 : Hid (fkF f = 0) := (by unfold fkF; rw [← HLP.out]; exact ups_ok h2 : fkF f = 0)
    have hc0 := box1_cell h1
    have hBD : Below w.heap.size w (W.putObj D (.deferred none)) := h3.trans (belowK_b (w := w) (Nat.le_refl _) W D _ _ (by omega) hKD rfl rfl)
    clear h1 h2 hF1 hS1
    go_wp2
    refine ⟨by simp, .inl ⟨_, _, rfl, run_takeDeferred hKD, ?_⟩⟩
    exact ⟨.int .i64 0, by simp [results, Try.results58, go_sem], ret_int HF0.out.symm, hBD⟩
  case stop =>
    rintro D c' pre W hD ⟨k, hk, hp⟩ ⟨rfl, ⟨q, pre', x, h0, h1, h2, h3, h5⟩, h6, h7⟩ hKD
    have HFq : Hid (fkF f = q) := ups_stop hp h0 (by have := HLP.out; omega) h3 h5 h2
    have hc0 := box1_cell h1
    have hBD : Below w.heap.size w (W.putObj D (.deferred none)) := h6.trans (belowK_b (w := w) (Nat.le_refl _) W D _ _ (by omega) hKD rfl rfl)
    clear h0 h1 h2 h3 h5 hF1 hS1 hp
    refine wpIn_wide.2 ?_
    go_wp2
    refine ⟨by simp, .inl ⟨_, _, rfl, run_takeDeferred hKD, ?_⟩⟩
    exact ⟨.int .i64 q, by simp [results, Try.results58, go_sem], ret_int HFq.out.symm, hBD⟩
end U
end Go.Proofs.Ytljbcpkjhnbpeaa
