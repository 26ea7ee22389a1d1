/- An argument that is something said, opened: by which tree, whether it is there, its value, its path, its trail. -/
import Derived.Test.YtdbbmclobmigdaaGreatArgTl
import Derived.Test.YtdbbmclobmigdaaGreatArgField
namespace Go.Proofs.YtdbbmclobmigdaaGreat
namespace U
open Go.ChangeShapes Go.WideShapes Go.ChangeAt Go.RowKit
theorem array8S (T : Array Value) (h : T.size = 8) : ∃ v0 v1 v2 v3 v4 v5 v6 v7 : Value, T = #[v0, v1, v2, v3, v4, v5, v6, v7] := by
  rcases T with ⟨l⟩
  match l, h with
  | [a, b, c, d, e, f, g, i], _ => exact ⟨a, b, c, d, e, f, g, i, rfl⟩
theorem trod_struct5 {H : Type} {enc : TypeId × Value → H} {P : Program} {w : World} {t : TypeId} {f0 f1 f2 f3 f4 : Field} {fuel : Nat} {cs : List Value} {x : DataW H × List MemPlace} (ht : P.underlying t = some (.struct #[f0, f1, f2, f3, f4])) (h : DataW.trod enc P w 0 (fun _ => true) true fuel t cs = some x) :
    ∃ y0 y1 y2 y3 y4 n, DataW.trod enc P w 0 (fun _ => true) true n f0.type ((cs.drop f0.offset).take (P.cellsOf f0.type)) = some y0 ∧ DataW.trod enc P w 0 (fun _ => true) true n f1.type ((cs.drop f1.offset).take (P.cellsOf f1.type)) = some y1 ∧
      DataW.trod enc P w 0 (fun _ => true) true n f2.type ((cs.drop f2.offset).take (P.cellsOf f2.type)) = some y2 ∧ DataW.trod enc P w 0 (fun _ => true) true n f3.type ((cs.drop f3.offset).take (P.cellsOf f3.type)) = some y3 ∧ DataW.trod enc P w 0 (fun _ => true) true n f4.type ((cs.drop f4.offset).take (P.cellsOf f4.type)) = some y4 := by
  obtain ⟨xs, n, _, rfl, hl, hlen, hf⟩ := DataW.trod_struct ht h
  match xs, hlen with
  | [y0, y1, y2, y3, y4], _ => exact ⟨y0, y1, y2, y3, y4, n, by simpa using hf 0 f0 rfl, by simpa using hf 1 f1 rfl, by simpa using hf 2 f2 rfl, by simpa using hf 3 f3 rfl, by simpa using hf 4 f4 rfl⟩
set_option maxRecDepth 100000 in
theorem tl_cells {H : Type} {enc : TypeId × Value → H} {W : World} {n : Nat} {c0 c1 c2 c3 : Value} {y : DataW H × List MemPlace} (hf : DataW.trod enc Tryz.prog W 0 (fun _ => true) true n 31 [c0, c1, c2, c3] = some y) :
    ∃ x k y l, c0 = .bool x ∧ c1 = .int .i64 k ∧ c2 = .int .i64 y ∧ Prs W c3 l ∧ l.length ≤ maxLen := by
  obtain ⟨y0, y1, y2, n, hx, _, h0, h1, h2⟩ := Go.Deep.trod_struct3 Tryz.underlying31 hf
  have k0 : Tryz.prog.cellsOf 4 = 1 := by kernel_rfl
  have k1 : Tryz.prog.cellsOf 28 = 2 := by kernel_rfl
  have k2 : Tryz.prog.cellsOf 29 = 1 := by kernel_rfl
  have k3 : Tryz.prog.cellsOf 2 = 1 := by kernel_rfl
  simp only [k0, k1, k2] at h0 h1 h2
  simp at h0 h1 h2
  obtain ⟨z0, z1, m, hz, _, t0, t1⟩ := trod_struct2 Tryz.underlying28 h1
  simp only [k3] at t0 t1
  simp at t0 t1
  obtain ⟨b, hb, -⟩ := DataW.trod_bool Tryz.underlying4 h0
  obtain ⟨i, hi, -⟩ := DataW.trod_int Tryz.underlying2 t0
  obtain ⟨j, hj, -⟩ := DataW.trod_int Tryz.underlying2 t1
  obtain ⟨l, hl, hn, -⟩ := prs_field Tryz.underlying29 Tryz.underlying200 (by kernel_rfl) rfl rfl (by kernel_rfl) (by kernel_rfl) Tryz.underlying2 Tryz.underlying2 h2
  exact ⟨b, i, j, l, by simpa using hb, by simpa using hi, by simpa using hj, hl, hn⟩
set_option maxRecDepth 100000 in
theorem sd_arg {H : Type} {enc : TypeId × Value → H} {W : World} {base : Nat} {v : Value} {d : DataW H} {p : List MemPlace} (hv : Value.okWide Tryz.prog W .any base 33 v) (h : DataW.Trod enc Tryz.prog W 0 (fun _ => true) true 33 v d p) :
    ∃ o t z sp ps x k y sv l, v = .agg #[.bool o, .bool t, .int .i64 z, sp, .bool x, .int .i64 k, .int .i64 y, sv] ∧ Ints .i64 W sp ps ∧ ps.length ≤ maxLen ∧ Prs W sv l ∧ l.length ≤ maxLen := by
  obtain ⟨cs, rfl, hsz⟩ := okWide_struct Tryz.underlying33 hv
  obtain ⟨c0, c1, c2, c3, c4, c5, c6, c7, rfl⟩ := array8S cs (hsz.trans (show Tryz.prog.cellsOf 33 = 8 by kernel_rfl))
  obtain ⟨fuel, hf⟩ := h
  obtain ⟨y0, y1, y2, y3, y4, n, h0, h1, h2, h3, h4⟩ := trod_struct5 Tryz.underlying33 hf
  have k0 : Tryz.prog.cellsOf 4 = 1 := by kernel_rfl
  have k1 : Tryz.prog.cellsOf 2 = 1 := by kernel_rfl
  have k2 : Tryz.prog.cellsOf 26 = 1 := by kernel_rfl
  have k3 : Tryz.prog.cellsOf 31 = 4 := by kernel_rfl
  simp only [Value.cells, k0, k1, k2, k3] at h0 h1 h2 h3 h4
  simp at h0 h1 h2 h3 h4
  obtain ⟨b, hb, -⟩ := DataW.trod_bool Tryz.underlying4 h0
  obtain ⟨t, ht, -⟩ := DataW.trod_bool Tryz.underlying4 h1
  obtain ⟨z, hz, -⟩ := DataW.trod_int Tryz.underlying2 h2
  obtain ⟨ps, hps, hpl, -⟩ := ints_field Tryz.underlying26 Tryz.underlying2 k1 h3
  obtain ⟨x, k, y, l, e4, e5, e6, hl, hn⟩ := tl_cells h4
  have e0 : c0 = .bool b := by simpa using hb
  have e1 : c1 = .bool t := by simpa using ht
  have e2 : c2 = .int .i64 z := by simpa using hz
  subst e0 e1 e2 e4 e5 e6
  exact ⟨b, t, z, c3, ps, x, k, y, c7, l, rfl, hps, hpl, hl, hn⟩
end U
end Go.Proofs.YtdbbmclobmigdaaGreat
