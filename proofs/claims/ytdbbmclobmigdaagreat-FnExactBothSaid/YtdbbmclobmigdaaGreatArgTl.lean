/- An argument that is a trail, opened: whether there is any, its leaf, and its forks as a list of pairs. -/
import Derived.Test.YtdbbmclobmigdaaGreatArgPrs
import Derived.Deep.Strs
namespace Go.Proofs.YtdbbmclobmigdaaGreat
namespace U
open Go.ChangeShapes Go.WideShapes Go.ChangeAt Go.RowKit
theorem prs_field {H : Type} {enc : TypeId × Value → H} {P : Program} {W : World} {t e : TypeId} {f0 f1 : Field} {v : Value} {x : DataW H × List MemPlace} {fuel : Nat} (ht : P.underlying t = some (.slice e)) (he : P.underlying e = some (.struct #[f0, f1]))
    (ce : P.cellsOf e = 2) (o0 : f0.offset = 0) (o1 : f1.offset = 1) (c0 : P.cellsOf f0.type = 1) (c1 : P.cellsOf f1.type = 1) (i0 : P.underlying f0.type = some (.int .i64)) (i1 : P.underlying f1.type = some (.int .i64))
    (hf : DataW.trod enc P W 0 (fun _ => true) true fuel t [v] = some x) : ∃ l, Prs W v l ∧ l.length ≤ maxLen ∧ ∀ q ∈ l, InI q := by
  rcases Go.Deep.open_slice_pairs ht he ce o0 o1 c0 c1 hf with ⟨hcs, hx⟩ | ⟨a, len, cap, m, n, V0, V1, D0, D1, P0, P1, hcs, h1, hl, hm, hmm, hx, hcell⟩
  · have e1 : v = .slice none 0 0 := by simpa using hcs
    subst e1
    exact ⟨[], Or.inl ⟨rfl, none, 0, rfl⟩, by simp, by simp⟩
  · have e1 : v = .slice (some a) len cap := by simpa using hcs
    subst e1
    rw [if_pos rfl] at hmm
    subst hmm
    by_cases h0 : len = 0
    · subst h0
      exact ⟨[], Or.inl ⟨rfl, _, _, rfl⟩, by simp, by simp⟩
    · have each : ∀ i, i < len → ∃ q : Int × Int, W.cell? (a.add (i * 2)) = some (.int .i64 q.1) ∧ W.cell? (a.add (i * 2 + 1)) = some (.int .i64 q.2) ∧ InI q := fun i hi => by
        obtain ⟨k0, k1, t0, t1⟩ := hcell i (by omega)
        obtain ⟨x, hx0, b0⟩ := ints_of i0 t0
        obtain ⟨y, hy0, b1⟩ := ints_of i1 t1
        exact ⟨(x, y), by rw [k0, hx0], by rw [k1, hy0], b0, b1⟩
      obtain ⟨q, hq⟩ := Go.Deep.choose_lt each
      obtain ⟨b, off, spot⟩ := a
      have hspot : spot = none := by simpa [Addr.add] using World.cell?_spot (hq 0 (by omega)).1
      subst hspot
      have hb : b < W.heap.size := by
        have h3 := (hq 0 (by omega)).1
        rw [add_plain] at h3
        rcases hh : W.heap[b]? with _ | o
        · simp [World.cell?, hh] at h3
        · exact (Array.getElem?_eq_some_iff.1 hh).1
      refine ⟨(List.range len).map q, Or.inr ⟨b, off, _, by simp; rfl, hb, fun j hj => ?_⟩, by simp; omega, fun x hx => ?_⟩
      · have hj' : j < len := by simpa using hj
        have e2 : pAt ((List.range len).map q) j = q j := by rw [pAt_eq hj]; simp
        rw [e2]
        have h3 := hq j hj'
        rw [add_plain, add_plain] at h3
        exact ⟨h3.1, by rw [Nat.add_assoc]; exact h3.2.1⟩
      · obtain ⟨i, hi, rfl⟩ := List.mem_map.1 hx
        exact (hq i (List.mem_range.1 hi)).2.2
set_option maxRecDepth 100000 in
theorem tl_arg {H : Type} {enc : TypeId × Value → H} {W : World} {base : Nat} {v : Value} {d : DataW H} {p : List MemPlace} (hv : Value.okWide Tryz.prog W .any base 31 v) (h : DataW.Trod enc Tryz.prog W 0 (fun _ => true) true 31 v d p) :
    ∃ x k y sv l, v = .agg #[.bool x, .int .i64 k, .int .i64 y, sv] ∧ Prs W sv l ∧ l.length ≤ maxLen := by
  obtain ⟨cs, rfl, hsz⟩ := okWide_struct Tryz.underlying31 hv
  obtain ⟨c0, c1, c2, c3, rfl⟩ := Joins.array4 (hsz.trans (show Tryz.prog.cellsOf 31 = 4 by kernel_rfl))
  obtain ⟨fuel, hf⟩ := h
  obtain ⟨y0, y1, y2, n, hx, _, h0, h1, h2⟩ := Go.Deep.trod_struct3 Tryz.underlying31 hf
  have k0 : Tryz.prog.cellsOf 4 = 1 := by kernel_rfl
  have k1 : Tryz.prog.cellsOf 28 = 2 := by kernel_rfl
  have k2 : Tryz.prog.cellsOf 29 = 1 := by kernel_rfl
  have k3 : Tryz.prog.cellsOf 2 = 1 := by kernel_rfl
  simp only [Value.cells, k0, k1, k2] at h0 h1 h2
  simp at h0 h1 h2
  obtain ⟨z0, z1, m, hz, _, t0, t1⟩ := trod_struct2 Tryz.underlying28 h1
  simp only [k3] at t0 t1
  simp at t0 t1
  obtain ⟨b, hb, -⟩ := DataW.trod_bool Tryz.underlying4 h0
  obtain ⟨i, hi, -⟩ := DataW.trod_int Tryz.underlying2 t0
  obtain ⟨j, hj, -⟩ := DataW.trod_int Tryz.underlying2 t1
  obtain ⟨l, hl, hn, -⟩ := prs_field Tryz.underlying29 Tryz.underlying200 (by kernel_rfl) rfl rfl (by kernel_rfl) (by kernel_rfl) Tryz.underlying2 Tryz.underlying2 h2
  have e0 : c0 = .bool b := by simpa using hb
  have e1 : c1 = .int .i64 i := by simpa using hi
  have e2 : c2 = .int .i64 j := by simpa using hj
  subst e0 e1 e2
  exact ⟨b, i, j, c3, l, rfl, hl, hn⟩
end U
end Go.Proofs.YtdbbmclobmigdaaGreat
