/- An argument that is a reply, opened: its epoch, what is held, the record, what is said. -/
import Derived.Test.YtdbbmclobmigdaaGreatArgSd
import Derived.Test.YtdbbmclobmigdaaGreatArgOp
namespace Go.Proofs.YtdbbmclobmigdaaGreat
namespace U
open Go.ChangeShapes Go.WideShapes Go.ChangeAt Go.RowKit
theorem array14R (T : Array Value) (h : T.size = 14) : ∃ v0 v1 v2 v3 v4 v5 v6 v7 v8 v9 v10 v11 v12 v13 : Value, T = #[v0, v1, v2, v3, v4, v5, v6, v7, v8, v9, v10, v11, v12, v13] := by
  rcases T with ⟨l⟩
  match l, h with
  | [a, b, c, d, e, f, g, i, j, k, m, n, o, p], _ => exact ⟨a, b, c, d, e, f, g, i, j, k, m, n, o, p, rfl⟩
set_option maxRecDepth 100000 in
theorem sd_cells {H : Type} {enc : TypeId × Value → H} {W : World} {n : Nat} {c0 c1 c2 c3 c4 c5 c6 c7 : Value} {y : DataW H × List MemPlace} (hf : DataW.trod enc Tryz.prog W 0 (fun _ => true) true n 33 [c0, c1, c2, c3, c4, c5, c6, c7] = some y) :
    ∃ o t z ps x k y l, c0 = .bool o ∧ c1 = .bool t ∧ c2 = .int .i64 z ∧ Ints .i64 W c3 ps ∧ ps.length ≤ maxLen ∧ c4 = .bool x ∧ c5 = .int .i64 k ∧ c6 = .int .i64 y ∧ Prs W c7 l ∧ l.length ≤ maxLen := by
  obtain ⟨y0, y1, y2, y3, y4, n, h0, h1, h2, h3, h4⟩ := trod_struct5 Tryz.underlying33 hf
  have k0 : Tryz.prog.cellsOf 4 = 1 := by kernel_rfl
  have k1 : Tryz.prog.cellsOf 2 = 1 := by kernel_rfl
  have k2 : Tryz.prog.cellsOf 26 = 1 := by kernel_rfl
  have k3 : Tryz.prog.cellsOf 31 = 4 := by kernel_rfl
  simp only [k0, k1, k2, k3] at h0 h1 h2 h3 h4
  simp at h0 h1 h2 h3 h4
  obtain ⟨b, hb, -⟩ := DataW.trod_bool Tryz.underlying4 h0
  obtain ⟨t, ht, -⟩ := DataW.trod_bool Tryz.underlying4 h1
  obtain ⟨z, hz, -⟩ := DataW.trod_int Tryz.underlying2 h2
  obtain ⟨ps, hps, hpl, -⟩ := ints_field Tryz.underlying26 Tryz.underlying2 k1 h3
  obtain ⟨x, k, y, l, e4, e5, e6, hl, hn⟩ := tl_cells h4
  exact ⟨b, t, z, ps, x, k, y, l, by simpa using hb, by simpa using ht, by simpa using hz, hps, hpl, e4, e5, e6, hl, hn⟩
set_option maxRecDepth 100000 in
theorem rp_arg {H : Type} {enc : TypeId × Value → H} {W : World} {base : Nat} {v : Value} {d : DataW H} {p : List MemPlace} (hv : Value.okWide Tryz.prog W .any base 35 v) (h : DataW.Trod enc Tryz.prog W 0 (fun _ => true) true 35 v d p) :
    ∃ e hl s a o q so st z sp ps x k y sv l, v = .agg #[.int .i64 e, .bool hl, .string s, .int .i64 a, .int .i64 o, .int .i64 q, .bool so, .bool st, .int .i64 z, sp, .bool x, .int .i64 k, .int .i64 y, sv] ∧ s.size ≤ maxLen ∧ Ints .i64 W sp ps ∧ ps.length ≤ maxLen ∧ Prs W sv l ∧ l.length ≤ maxLen := by
  obtain ⟨cs, rfl, hsz⟩ := okWide_struct Tryz.underlying35 hv
  obtain ⟨c0, c1, c2, c3, c4, c5, c6, c7, c8, c9, c10, c11, c12, c13, rfl⟩ := array14R cs (hsz.trans (show Tryz.prog.cellsOf 35 = 14 by kernel_rfl))
  obtain ⟨fuel, hf⟩ := h
  obtain ⟨y0, y1, y2, y3, n, h0, h1, h2, h3⟩ := trod_struct4O Tryz.underlying35 hf
  have k0 : Tryz.prog.cellsOf 4 = 1 := by kernel_rfl
  have k1 : Tryz.prog.cellsOf 2 = 1 := by kernel_rfl
  have k3 : Tryz.prog.cellsOf 25 = 4 := by kernel_rfl
  have k4 : Tryz.prog.cellsOf 33 = 8 := by kernel_rfl
  simp only [Value.cells, k0, k1, k3, k4] at h0 h1 h2 h3
  simp at h0 h1 h2 h3
  obtain ⟨e, he, -⟩ := DataW.trod_int Tryz.underlying2 h0
  obtain ⟨b, hb, -⟩ := DataW.trod_bool Tryz.underlying4 h1
  obtain ⟨s, a, o, q, e2, e3, e4, e5, hs⟩ := rc_cells h2
  obtain ⟨so, st, z, ps, x, k, y, l, e6, e7, e8, hp, hpl, e10, e11, e12, hl, hn⟩ := sd_cells h3
  have e0 : c0 = .int .i64 e := by simpa using he
  have e1 : c1 = .bool b := by simpa using hb
  subst e0 e1 e2 e3 e4 e5 e6 e7 e8 e10 e11 e12
  exact ⟨e, b, s, a, o, q, so, st, z, c9, ps, x, k, y, c13, l, rfl, hs, hp, hpl, hl, hn⟩
end U
end Go.Proofs.YtdbbmclobmigdaaGreat
