/- An argument that is a directory, opened: it reads as a list of records. -/
import Derived.Test.YtihhigmceeabmaaGreatLaw
import Derived.Test.YtihhigmceeabmaaGreatDrL
import Derived.Deep.SlicePairs
import Derived.Lib.SmallJoins
namespace Go.Proofs.YtihhigmceeabmaaGreat
namespace U
open Go.ChangeShapes Go.WideShapes Go.ChangeAt Go.RowKit
theorem rcs_field {H : Type} {enc : TypeId × Value → H} {P : Program} {W : World} {t e : TypeId} {f0 f1 f2 f3 : Field} {v : Value} {fuel : Nat} {x : DataW H × List MemPlace} (ht : P.underlying t = some (.slice e)) (he : P.underlying e = some (.struct #[f0, f1, f2, f3]))
    (ce : P.cellsOf e = 4) (hone : Go.Deep.oneCellFields P #[f0, f1, f2, f3] = true) (i0 : P.underlying f0.type = some .string) (i1 : P.underlying f1.type = some (.int .i64)) (i2 : P.underlying f2.type = some (.int .i64)) (i3 : P.underlying f3.type = some (.int .i64))
    (hf : DataW.trod enc P W 0 (fun _ => true) true fuel t [v] = some x) : ∃ l, Rcs W v l ∧ l.length ≤ maxLen ∧ LbM l := by
  rcases Go.Deep.open_slice ht hf with ⟨hcs, hx⟩ | ⟨a, len, cap, m, n, D, Pl, hcs, hb, hl, hm, hmm, hx, hcell⟩
  · have e1 : v = .slice none 0 0 := by simpa using hcs
    subst e1
    exact ⟨[], Rcs.nil _ _ _, by simp, fun r hr => by cases hr⟩
  · have e1 : v = .slice (some a) len cap := by simpa using hcs
    subst e1
    rw [if_pos rfl] at hmm
    subst hmm
    by_cases h0 : len = 0
    · subst h0
      exact ⟨[], Rcs.nil _ _ _, by simp, fun r hr => by cases hr⟩
    · have each : ∀ i, i < len → ∃ r : Rc, W.cell? (a.add (i * 4)) = some (.string r.l) ∧ W.cell? (a.add (i * 4 + 1)) = some (.int .i64 r.v) ∧ W.cell? (a.add (i * 4 + 2)) = some (.int .i64 r.o) ∧ W.cell? (a.add (i * 4 + 3)) = some (.int .i64 r.p) ∧ r.l.size ≤ maxLen := by
        intro i hi
        obtain ⟨cs', h1, h2⟩ := hcell i (by omega)
        rw [ce] at h1
        obtain ⟨_, hlen, hc⟩ := World.cells?_some h1
        obtain ⟨y0, y1, y2, y3, k, -, -, t0, t1, t2, t3⟩ := Joins.trod_struct4 he h2
        obtain ⟨o0, k0⟩ := Go.Deep.hone_of hone 0 f0 rfl
        obtain ⟨o1, k1⟩ := Go.Deep.hone_of hone 1 f1 rfl
        obtain ⟨o2, k2⟩ := Go.Deep.hone_of hone 2 f2 rfl
        obtain ⟨o3, k3⟩ := Go.Deep.hone_of hone 3 f3 rfl
        match cs', hlen with
        | [v0, v1, v2, v3], _ =>
          have g0 : DataW.trod enc P W 0 (fun _ => true) true k f0.type [v0] = some y0 := by simpa [o0, k0] using t0
          have g1 : DataW.trod enc P W 0 (fun _ => true) true k f1.type [v1] = some y1 := by simpa [o1, k1] using t1
          have g2 : DataW.trod enc P W 0 (fun _ => true) true k f2.type [v2] = some y2 := by simpa [o2, k2] using t2
          have g3 : DataW.trod enc P W 0 (fun _ => true) true k f3.type [v3] = some y3 := by simpa [o3, k3] using t3
          obtain ⟨s, hs0, -, hs⟩ := DataW.trod_string i0 g0
          obtain ⟨n1, hn1, -, -⟩ := DataW.trod_int i1 g1
          obtain ⟨n2, hn2, -, -⟩ := DataW.trod_int i2 g2
          obtain ⟨n3, hn3, -, -⟩ := DataW.trod_int i3 g3
          have e0 := hc 0 (by omega)
          have e1 := hc 1 (by omega)
          have e2 := hc 2 (by omega)
          have e3 := hc 3 (by omega)
          rw [Go.Deep.add_add] at e0 e1 e2 e3
          simp at hs0 hn1 hn2 hn3
          subst hs0 hn1 hn2 hn3
          exact ⟨⟨s, n1, n2, n3⟩, by simpa using e0, by simpa using e1, by simpa using e2, by simpa using e3, hs⟩
      obtain ⟨b, off, spot⟩ := a
      have hspot : spot = none := by
        obtain ⟨r, h1, -⟩ := each 0 (by omega)
        simpa [Addr.add] using World.cell?_spot h1
      subst hspot
      have each2 : ∀ i, i < len → ∃ r : Rc, RecS W b (off + i * 4) r ∧ r.l.size ≤ maxLen := fun i hi => by
        obtain ⟨r, h⟩ := each i hi
        simp only [add_plain] at h
        exact ⟨r, ⟨h.1, by rw [Nat.add_assoc]; exact h.2.1, by rw [Nat.add_assoc]; exact h.2.2.1, by rw [Nat.add_assoc]; exact h.2.2.2.1⟩, h.2.2.2.2⟩
      obtain ⟨q, hq⟩ : ∃ q : Nat → Rc, ∀ i, i < len → RecS W b (off + i * 4) (q i) ∧ (q i).l.size ≤ maxLen := by
        refine ⟨fun i => if h : i < len then Classical.choose (each2 i h) else rcZ, fun i hi => ?_⟩
        show RecS W b (off + i * 4) (if h : i < len then Classical.choose (each2 i h) else rcZ) ∧ (if h : i < len then Classical.choose (each2 i h) else rcZ).l.size ≤ maxLen
        rw [dif_pos hi]
        exact Classical.choose_spec (each2 i hi)
      have hbb : b < W.heap.size := (hq 0 (by omega)).1.lt
      refine ⟨(List.range len).map q, Or.inr ⟨b, off, _, by simp; rfl, hbb, fun j hj => ?_⟩, by simp; omega, fun r hr => ?_⟩
      · have hj' : j < len := by simpa using hj
        have e2 : rAt ((List.range len).map q) j = q j := by rw [rAt_eq hj]; simp
        rw [e2]
        exact (hq j hj').1
      · obtain ⟨i, hi, rfl⟩ := List.mem_map.1 hr
        exact (hq i (List.mem_range.1 hi)).2
theorem dr_arg {H : Type} {enc : TypeId × Value → H} {P : Program} {W : World} {base : Nat} {td e : TypeId} {g f0 f1 f2 f3 : Field} {v : Value} {d : DataW H} {p : List MemPlace} (hd : P.underlying td = some (.struct #[g])) (hgo : Go.Deep.oneCellFields P #[g] = true) (cd : P.cellsOf td = 1) (ht : P.underlying g.type = some (.slice e)) (he : P.underlying e = some (.struct #[f0, f1, f2, f3]))
    (ce : P.cellsOf e = 4) (hone : Go.Deep.oneCellFields P #[f0, f1, f2, f3] = true) (i0 : P.underlying f0.type = some .string) (i1 : P.underlying f1.type = some (.int .i64)) (i2 : P.underlying f2.type = some (.int .i64)) (i3 : P.underlying f3.type = some (.int .i64))
    (hv : Value.okWide P W .any base td v) (h : DataW.Trod enc P W 0 (fun _ => true) true td v d p) : ∃ u l, v = .agg #[u] ∧ Rcs W u l ∧ l.length ≤ maxLen ∧ LbM l := by
  obtain ⟨cs, rfl, hsz⟩ := okWide_struct hd hv
  rw [cd] at hsz
  obtain ⟨u, rfl⟩ : ∃ u, cs = #[u] := by
    obtain ⟨l⟩ := cs
    match l, hsz with
    | [u], _ => exact ⟨u, rfl⟩
  obtain ⟨fuel, hf⟩ := h
  obtain ⟨xs, n, _, -, hl, hlen, hfs⟩ := DataW.trod_struct hd hf
  have h0 := hfs 0 g rfl
  obtain ⟨o0, k0⟩ := Go.Deep.hone_of hgo 0 g rfl
  match xs, hlen with
  | [y0], _ =>
    have g0 : DataW.trod enc P W 0 (fun _ => true) true n g.type [u] = some y0 := by simpa [Value.cells, o0, k0] using h0
    obtain ⟨l, h1, h2, h3⟩ := rcs_field ht he ce hone i0 i1 i2 i3 g0
    exact ⟨u, l, rfl, h1, h2, h3⟩
end U
end Go.Proofs.YtihhigmceeabmaaGreat
