/- An argument that is a head, or a row of heads, opened. -/
import Derived.Test.YtdbbmclobmigdaaGreatLaw
import Derived.Test.YtdbbmclobmigdaaGreatGSC
import Derived.Test.YtdbbmclobmigdaaGreatGHdS
import Derived.Deep.SlicePairs
import Derived.Lib.SmallJoins
namespace Go.Proofs.YtdbbmclobmigdaaGreat
namespace U
open Go.ChangeShapes Go.WideShapes Go.ChangeAt Go.RowKit
theorem trod_struct5H {H : Type} {enc : TypeId × Value → H} {P : Program} {w : World} {t : TypeId} {f0 f1 f2 f3 f4 : Field} {fuel : Nat} {cs : List Value} {x : DataW H × List MemPlace} (ht : P.underlying t = some (.struct #[f0, f1, f2, f3, f4])) (h : DataW.trod enc P w 0 (fun _ => true) true fuel t cs = some x) :
    ∃ y0 y1 y2 y3 y4 n, DataW.trod enc P w 0 (fun _ => true) true n f0.type ((cs.drop f0.offset).take (P.cellsOf f0.type)) = some y0 ∧ DataW.trod enc P w 0 (fun _ => true) true n f1.type ((cs.drop f1.offset).take (P.cellsOf f1.type)) = some y1 ∧
      DataW.trod enc P w 0 (fun _ => true) true n f2.type ((cs.drop f2.offset).take (P.cellsOf f2.type)) = some y2 ∧ DataW.trod enc P w 0 (fun _ => true) true n f3.type ((cs.drop f3.offset).take (P.cellsOf f3.type)) = some y3 ∧ DataW.trod enc P w 0 (fun _ => true) true n f4.type ((cs.drop f4.offset).take (P.cellsOf f4.type)) = some y4 := by
  obtain ⟨xs, n, _, rfl, hl, hlen, hf⟩ := DataW.trod_struct ht h
  match xs, hlen with
  | [y0, y1, y2, y3, y4], _ => exact ⟨y0, y1, y2, y3, y4, n, by simpa using hf 0 f0 rfl, by simpa using hf 1 f1 rfl, by simpa using hf 2 f2 rfl, by simpa using hf 3 f3 rfl, by simpa using hf 4 f4 rfl⟩
theorem array5H (T : Array Value) (h : T.size = 5) : ∃ v0 v1 v2 v3 v4 : Value, T = #[v0, v1, v2, v3, v4] := by
  rcases T with ⟨l⟩
  match l, h with
  | [a, b, c, d, e], _ => exact ⟨a, b, c, d, e, rfl⟩
set_option maxRecDepth 100000 in
theorem hd_cells {H : Type} {enc : TypeId × Value → H} {W : World} {n : Nat} {c0 c1 c2 c3 c4 : Value} {y : DataW H × List MemPlace} (hf : DataW.trod enc Tryz.prog W 0 (fun _ => true) true n 23 [c0, c1, c2, c3, c4] = some y) :
    ∃ r : Hd, c0 = .int .i64 r.e ∧ c1 = .int .i64 r.p ∧ c2 = .int .i64 r.o ∧ c3 = .int .i64 r.n ∧ c4 = .int .i64 r.v := by
  obtain ⟨y0, y1, y2, y3, y4, n, h0, h1, h2, h3, h4⟩ := trod_struct5H Tryz.underlying23 hf
  have k1 : Tryz.prog.cellsOf 2 = 1 := by kernel_rfl
  simp only [k1] at h0 h1 h2 h3 h4
  simp at h0 h1 h2 h3 h4
  obtain ⟨a, ha, -⟩ := DataW.trod_int Tryz.underlying2 h0
  obtain ⟨b, hb, -⟩ := DataW.trod_int Tryz.underlying2 h1
  obtain ⟨c, hc, -⟩ := DataW.trod_int Tryz.underlying2 h2
  obtain ⟨d, hd, -⟩ := DataW.trod_int Tryz.underlying2 h3
  obtain ⟨e, he, -⟩ := DataW.trod_int Tryz.underlying2 h4
  exact ⟨⟨a, b, c, d, e⟩, by simpa using ha, by simpa using hb, by simpa using hc, by simpa using hd, by simpa using he⟩
set_option maxRecDepth 100000 in
theorem hd_arg {H : Type} {enc : TypeId × Value → H} {W : World} {base : Nat} {v : Value} {d : DataW H} {p : List MemPlace} (hv : Value.okWide Tryz.prog W .any base 23 v) (h : DataW.Trod enc Tryz.prog W 0 (fun _ => true) true 23 v d p) :
    ∃ a b c d e, v = .agg #[.int .i64 a, .int .i64 b, .int .i64 c, .int .i64 d, .int .i64 e] := by
  obtain ⟨cs, rfl, hsz⟩ := okWide_struct Tryz.underlying23 hv
  obtain ⟨c0, c1, c2, c3, c4, rfl⟩ := array5H cs (hsz.trans (show Tryz.prog.cellsOf 23 = 5 by kernel_rfl))
  obtain ⟨fuel, hf⟩ := h
  obtain ⟨r, rfl, rfl, rfl, rfl, rfl⟩ := hd_cells hf
  exact ⟨_, _, _, _, _, rfl⟩
set_option maxRecDepth 100000 in
theorem hds_field {H : Type} {enc : TypeId × Value → H} {W : World} {v : Value} {fuel : Nat} {x : DataW H × List MemPlace} (hf : DataW.trod enc Tryz.prog W 0 (fun _ => true) true fuel 71 [v] = some x) : ∃ l, Hds W v l ∧ l.length ≤ maxLen := by
  rcases Go.Deep.open_slice Tryz.underlying71 hf with ⟨hcs, hx⟩ | ⟨a, len, cap, m, n, D, Pl, hcs, hb, hl, hm, hmm, hx, hcell⟩
  · have e1 : v = .slice none 0 0 := by simpa using hcs
    subst e1
    exact ⟨[], Hds.nil _ _ _, by simp⟩
  · have e1 : v = .slice (some a) len cap := by simpa using hcs
    subst e1
    rw [if_pos rfl] at hmm
    subst hmm
    by_cases h0 : len = 0
    · subst h0
      exact ⟨[], Hds.nil _ _ _, by simp⟩
    · have each : ∀ i, i < len → ∃ r : Hd, W.cell? (a.add (i * 5)) = some (.int .i64 r.e) ∧ W.cell? (a.add (i * 5 + 1)) = some (.int .i64 r.p) ∧ W.cell? (a.add (i * 5 + 2)) = some (.int .i64 r.o) ∧ W.cell? (a.add (i * 5 + 3)) = some (.int .i64 r.n) ∧ W.cell? (a.add (i * 5 + 4)) = some (.int .i64 r.v) := by
        intro i hi
        obtain ⟨cs', h1, h2⟩ := hcell i (by omega)
        have ce : Tryz.prog.cellsOf 23 = 5 := by kernel_rfl
        rw [ce] at h1
        obtain ⟨_, hlen, hc⟩ := World.cells?_some h1
        match cs', hlen with
        | [v0, v1, v2, v3, v4], _ =>
          obtain ⟨r, rfl, rfl, rfl, rfl, rfl⟩ := hd_cells h2
          have e0 := hc 0 (by omega)
          have e1 := hc 1 (by omega)
          have e2 := hc 2 (by omega)
          have e3 := hc 3 (by omega)
          have e4 := hc 4 (by omega)
          rw [Go.Deep.add_add] at e0 e1 e2 e3 e4
          exact ⟨r, by simpa using e0, by simpa using e1, by simpa using e2, by simpa using e3, by simpa using e4⟩
      obtain ⟨b, off, spot⟩ := a
      have hspot : spot = none := by
        obtain ⟨r, h1, -⟩ := each 0 (by omega)
        simpa [Addr.add] using World.cell?_spot h1
      subst hspot
      have each2 : ∀ i, i < len → ∃ r : Hd, HdS W b (off + i * 5) r := fun i hi => by
        obtain ⟨r, h⟩ := each i hi
        simp only [add_plain] at h
        exact ⟨r, ⟨h.1, by rw [Nat.add_assoc]; exact h.2.1, by rw [Nat.add_assoc]; exact h.2.2.1, by rw [Nat.add_assoc]; exact h.2.2.2.1, by rw [Nat.add_assoc]; exact h.2.2.2.2⟩⟩
      obtain ⟨q, hq⟩ : ∃ q : Nat → Hd, ∀ i, i < len → HdS W b (off + i * 5) (q i) := by
        refine ⟨fun i => if h : i < len then Classical.choose (each2 i h) else hdZ, fun i hi => ?_⟩
        show HdS W b (off + i * 5) (if h : i < len then Classical.choose (each2 i h) else hdZ)
        rw [dif_pos hi]
        exact Classical.choose_spec (each2 i hi)
      have hbb : b < W.heap.size := (hq 0 (by omega)).lt
      refine ⟨(List.range len).map q, Or.inr ⟨b, off, _, by simp; rfl, hbb, fun j hj => ?_⟩, by simp; omega⟩
      have hj' : j < len := by simpa using hj
      have e2 : hAt ((List.range len).map q) j = q j := by rw [hAt_eq hj]; simp
      rw [e2]
      exact hq j hj'
set_option maxRecDepth 100000 in
theorem hds_arg {H : Type} {enc : TypeId × Value → H} {W : World} {base : Nat} {v : Value} {d : DataW H} {p : List MemPlace} (hv : Value.okWide Tryz.prog W .any base 71 v) (h : DataW.Trod enc Tryz.prog W 0 (fun _ => true) true 71 v d p) :
    ∃ l, Hds W v l ∧ l.length ≤ maxLen := by
  obtain ⟨a0, len0, cap0, rfl⟩ := okWide_slice Tryz.underlying71 hv
  obtain ⟨fuel, hf⟩ := h
  exact hds_field (by simpa [Value.cells] using hf)
end U
end Go.Proofs.YtdbbmclobmigdaaGreat
