/- An argument that is a sample, opened: its label, two replies. -/
import Derived.Test.YtdbbmclobmigdaaGreatArgRp
namespace Go.Proofs.YtdbbmclobmigdaaGreat
namespace U
open Go.ChangeShapes Go.WideShapes Go.ChangeAt Go.RowKit
theorem trod_struct3M {H : Type} {enc : TypeId × Value → H} {P : Program} {w : World} {t : TypeId} {f0 f1 f2 : Field} {fuel : Nat} {cs : List Value} {x : DataW H × List MemPlace} (ht : P.underlying t = some (.struct #[f0, f1, f2])) (h : DataW.trod enc P w 0 (fun _ => true) true fuel t cs = some x) :
    ∃ y0 y1 y2 n, DataW.trod enc P w 0 (fun _ => true) true n f0.type ((cs.drop f0.offset).take (P.cellsOf f0.type)) = some y0 ∧ DataW.trod enc P w 0 (fun _ => true) true n f1.type ((cs.drop f1.offset).take (P.cellsOf f1.type)) = some y1 ∧
      DataW.trod enc P w 0 (fun _ => true) true n f2.type ((cs.drop f2.offset).take (P.cellsOf f2.type)) = some y2 := by
  obtain ⟨xs, n, _, rfl, hl, hlen, hf⟩ := DataW.trod_struct ht h
  match xs, hlen with
  | [y0, y1, y2], _ => exact ⟨y0, y1, y2, n, by simpa using hf 0 f0 rfl, by simpa using hf 1 f1 rfl, by simpa using hf 2 f2 rfl⟩
theorem array29M (T : Array Value) (h : T.size = 29) : ∃ v0 v1 v2 v3 v4 v5 v6 v7 v8 v9 v10 v11 v12 v13 v14 v15 v16 v17 v18 v19 v20 v21 v22 v23 v24 v25 v26 v27 v28 : Value, T = #[v0, v1, v2, v3, v4, v5, v6, v7, v8, v9, v10, v11, v12, v13, v14, v15, v16, v17, v18, v19, v20, v21, v22, v23, v24, v25, v26, v27, v28] := by
  rcases T with ⟨l⟩
  match l, h with
  | [v0, v1, v2, v3, v4, v5, v6, v7, v8, v9, v10, v11, v12, v13, v14, v15, v16, v17, v18, v19, v20, v21, v22, v23, v24, v25, v26, v27, v28], _ => exact ⟨v0, v1, v2, v3, v4, v5, v6, v7, v8, v9, v10, v11, v12, v13, v14, v15, v16, v17, v18, v19, v20, v21, v22, v23, v24, v25, v26, v27, v28, rfl⟩
set_option maxRecDepth 100000 in
theorem rp_cells {H : Type} {enc : TypeId × Value → H} {W : World} {n : Nat} {c0 c1 c2 c3 c4 c5 c6 c7 c8 c9 c10 c11 c12 c13 : Value} {y : DataW H × List MemPlace} (hf : DataW.trod enc Tryz.prog W 0 (fun _ => true) true n 35 [c0, c1, c2, c3, c4, c5, c6, c7, c8, c9, c10, c11, c12, c13] = some y) :
    ∃ e hl s a o q so st z sp ps x k y sv l, [c0, c1, c2, c3, c4, c5, c6, c7, c8, c9, c10, c11, c12, c13] = [.int .i64 e, .bool hl, .string s, .int .i64 a, .int .i64 o, .int .i64 q, .bool so, .bool st, .int .i64 z, sp, .bool x, .int .i64 k, .int .i64 y, sv] ∧ s.size ≤ maxLen ∧ Ints .i64 W sp ps ∧ ps.length ≤ maxLen ∧ Prs W sv l ∧ l.length ≤ maxLen := by
  obtain ⟨y0, y1, y2, y3, n, h0, h1, h2, h3⟩ := trod_struct4O Tryz.underlying35 hf
  have k0 : Tryz.prog.cellsOf 4 = 1 := by kernel_rfl
  have k1 : Tryz.prog.cellsOf 2 = 1 := by kernel_rfl
  have k3 : Tryz.prog.cellsOf 25 = 4 := by kernel_rfl
  have k4 : Tryz.prog.cellsOf 33 = 8 := by kernel_rfl
  simp only [k0, k1, k3, k4] at h0 h1 h2 h3
  simp at h0 h1 h2 h3
  obtain ⟨e, he, -⟩ := DataW.trod_int Tryz.underlying2 h0
  obtain ⟨b, hb, -⟩ := DataW.trod_bool Tryz.underlying4 h1
  obtain ⟨s, a, o, q, e2, e3, e4, e5, hs⟩ := rc_cells h2
  obtain ⟨so, st, z, ps, x, k, y, l, e6, e7, e8, hp, hpl, e10, e11, e12, hl, hn⟩ := sd_cells h3
  have e0 : c0 = .int .i64 e := by simpa using he
  have e1 : c1 = .bool b := by simpa using hb
  subst e0 e1 e2 e3 e4 e5 e6 e7 e8 e10 e11 e12
  exact ⟨e, b, s, a, o, q, so, st, z, c9, ps, x, k, y, c13, l, rfl, hs, hp, hpl, hl, hn⟩
set_option maxRecDepth 100000 in
set_option maxHeartbeats 1000000 in
theorem sm_arg {H : Type} {enc : TypeId × Value → H} {W : World} {base : Nat} {v : Value} {d : DataW H} {p : List MemPlace} (hv : Value.okWide Tryz.prog W .any base 63 v) (h : DataW.Trod enc Tryz.prog W 0 (fun _ => true) true 63 v d p) :
    ∃ g e1 hl1 s1 a1 o1 q1 so1 st1 z1 sp1 ps1 x1 k1 y1 sv1 l1 e2 hl2 s2 a2 o2 q2 so2 st2 z2 sp2 ps2 x2 k2 y2 sv2 l2, v = .agg #[.string g, .int .i64 e1, .bool hl1, .string s1, .int .i64 a1, .int .i64 o1, .int .i64 q1, .bool so1, .bool st1, .int .i64 z1, sp1, .bool x1, .int .i64 k1, .int .i64 y1, sv1, .int .i64 e2, .bool hl2, .string s2, .int .i64 a2, .int .i64 o2, .int .i64 q2, .bool so2, .bool st2, .int .i64 z2, sp2, .bool x2, .int .i64 k2, .int .i64 y2, sv2] ∧ g.size ≤ maxLen ∧ s1.size ≤ maxLen ∧ Ints .i64 W sp1 ps1 ∧ ps1.length ≤ maxLen ∧ Prs W sv1 l1 ∧ l1.length ≤ maxLen ∧ s2.size ≤ maxLen ∧ Ints .i64 W sp2 ps2 ∧ ps2.length ≤ maxLen ∧ Prs W sv2 l2 ∧ l2.length ≤ maxLen := by
  obtain ⟨cs, rfl, hsz⟩ := okWide_struct Tryz.underlying63 hv
  obtain ⟨v0, v1, v2, v3, v4, v5, v6, v7, v8, v9, v10, v11, v12, v13, v14, v15, v16, v17, v18, v19, v20, v21, v22, v23, v24, v25, v26, v27, v28, rfl⟩ := array29M cs (hsz.trans (show Tryz.prog.cellsOf 63 = 29 by kernel_rfl))
  obtain ⟨fuel, hf⟩ := h
  obtain ⟨y0, y1, y2, n, h0, h1, h2⟩ := trod_struct3M Tryz.underlying63 hf
  have k0 : Tryz.prog.cellsOf 9 = 1 := by kernel_rfl
  have k1 : Tryz.prog.cellsOf 35 = 14 := by kernel_rfl
  simp only [Value.cells, k0, k1] at h0 h1 h2
  simp at h0 h1 h2
  obtain ⟨g, hg, -, hgs⟩ := DataW.trod_string Tryz.underlying9 h0
  obtain ⟨e1, hl1, s1, a1, o1, q1, so1, st1, z1, sp1, ps1, x1, k1, y1, sv1, l1, Q1, u1, u2, u3, u4, u5⟩ := rp_cells h1
  obtain ⟨e2, hl2, s2, a2, o2, q2, so2, st2, z2, sp2, ps2, x2, k2, y2, sv2, l2, Q2, w1, w2, w3, w4, w5⟩ := rp_cells h2
  have e0 : v0 = .string g := by simpa using hg
  simp only [List.cons.injEq, and_true] at Q1 Q2
  obtain ⟨rfl, rfl, rfl, rfl, rfl, rfl, rfl, rfl, rfl, rfl, rfl, rfl, rfl, rfl⟩ := Q1
  obtain ⟨rfl, rfl, rfl, rfl, rfl, rfl, rfl, rfl, rfl, rfl, rfl, rfl, rfl, rfl⟩ := Q2
  subst e0
  exact ⟨g, e1, hl1, s1, a1, o1, q1, so1, st1, z1, _, ps1, x1, k1, y1, _, l1, e2, hl2, s2, a2, o2, q2, so2, st2, z2, _, ps2, x2, k2, y2, _, l2, rfl, hgs, u1, u2, u3, u4, u5, w1, w2, w3, w4, w5⟩
end U
end Go.Proofs.YtdbbmclobmigdaaGreat
