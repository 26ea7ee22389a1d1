/- An argument that is a step, opened. -/
import Derived.Test.YtacaoehcfmblbaaArgOp
namespace Go.Proofs.Ytacaoehcfmblbaa
namespace U
open Go.ChangeShapes Go.WideShapes Go.ChangeAt Go.RowKit
theorem array9 (T : Array Value) (h : T.size = 9) : ∃ v0 v1 v2 v3 v4 v5 v6 v7 v8 : Value, T = #[v0, v1, v2, v3, v4, v5, v6, v7, v8] := by
  rcases T with ⟨l⟩
  match l, h with
  | [a, b, c, d, e, f, g, h, i], _ => exact ⟨a, b, c, d, e, f, g, h, i, rfl⟩
theorem trod_struct3S {H : Type} {enc : TypeId × Value → H} {P : Program} {w : World} {t : TypeId} {f0 f1 f2 : Field} {fuel : Nat} {cs : List Value} {x : DataW H × List MemPlace} (ht : P.underlying t = some (.struct #[f0, f1, f2])) (h : DataW.trod enc P w 0 (fun _ => true) true fuel t cs = some x) :
    ∃ y0 y1 y2 n, DataW.trod enc P w 0 (fun _ => true) true n f0.type ((cs.drop f0.offset).take (P.cellsOf f0.type)) = some y0 ∧ DataW.trod enc P w 0 (fun _ => true) true n f1.type ((cs.drop f1.offset).take (P.cellsOf f1.type)) = some y1 ∧
      DataW.trod enc P w 0 (fun _ => true) true n f2.type ((cs.drop f2.offset).take (P.cellsOf f2.type)) = some y2 := by
  obtain ⟨xs, n, _, rfl, hl, hlen, hf⟩ := DataW.trod_struct ht h
  match xs, hlen with
  | [y0, y1, y2], _ => exact ⟨y0, y1, y2, n, by simpa using hf 0 f0 rfl, by simpa using hf 1 f1 rfl, by simpa using hf 2 f2 rfl⟩
set_option maxRecDepth 100000 in
theorem op_cells {H : Type} {enc : TypeId × Value → H} {W : World} {fuel : Nat} {c0 c1 c2 c3 c4 c5 c6 : Value} {y : DataW H × List MemPlace} (hf : DataW.trod enc Try.prog W 0 (fun _ => true) true fuel 25 [c0, c1, c2, c3, c4, c5, c6] = some y) :
    ∃ k l a o p c n, c0 = .int .i64 k ∧ c1 = .string l ∧ c2 = .int .i64 a ∧ c3 = .int .i64 o ∧ c4 = .int .i64 p ∧ c5 = .int .i64 c ∧ c6 = .int .i64 n ∧ l.size ≤ maxLen := by
  obtain ⟨y0, y1, y2, y3, n, h0, h1, h2, h3⟩ := trod_struct4O Try.underlying25 hf
  have k1 : Try.prog.cellsOf 2 = 1 := by kernel_rfl
  have k3 : Try.prog.cellsOf 23 = 4 := by kernel_rfl
  simp only [k1, k3] at h0 h1 h2 h3
  simp at h0 h1 h2 h3
  obtain ⟨k, hk, -⟩ := DataW.trod_int Try.underlying2 h0
  obtain ⟨l, a, o, p, e1, e2, e3, e4, hl⟩ := rc_cells h1
  obtain ⟨c, hc, -⟩ := DataW.trod_int Try.underlying2 h2
  obtain ⟨m, hm, -⟩ := DataW.trod_int Try.underlying2 h3
  have e0 : c0 = .int .i64 k := by simpa using hk
  have e5 : c5 = .int .i64 c := by simpa using hc
  have e6 : c6 = .int .i64 m := by simpa using hm
  subst e0 e1 e2 e3 e4 e5 e6
  exact ⟨k, l, a, o, p, c, m, rfl, rfl, rfl, rfl, rfl, rfl, rfl, hl⟩
set_option maxRecDepth 100000 in
theorem sp_arg {H : Type} {enc : TypeId × Value → H} {W : World} {base : Nat} {v : Value} {d : DataW H} {p : List MemPlace} (hv : Value.okWide Try.prog W .any base 27 v) (h : DataW.Trod enc Try.prog W 0 (fun _ => true) true 27 v d p) :
    ∃ b j k l a o p c n, v = .agg #[.bool b, .int .i64 j, .int .i64 k, .string l, .int .i64 a, .int .i64 o, .int .i64 p, .int .i64 c, .int .i64 n] ∧ l.size ≤ maxLen := by
  obtain ⟨cs, rfl, hsz⟩ := okWide_struct Try.underlying27 hv
  obtain ⟨c0, c1, c2, c3, c4, c5, c6, c7, c8, rfl⟩ := array9 cs (hsz.trans (show Try.prog.cellsOf 27 = 9 by kernel_rfl))
  obtain ⟨fuel, hf⟩ := h
  obtain ⟨y0, y1, y2, n, h0, h1, h2⟩ := trod_struct3S Try.underlying27 hf
  have k0 : Try.prog.cellsOf 4 = 1 := by kernel_rfl
  have k1 : Try.prog.cellsOf 2 = 1 := by kernel_rfl
  have k3 : Try.prog.cellsOf 25 = 7 := by kernel_rfl
  simp only [Value.cells, k0, k1, k3] at h0 h1 h2
  simp at h0 h1 h2
  obtain ⟨b, hb, -⟩ := DataW.trod_bool Try.underlying4 h0
  obtain ⟨j, hj, -⟩ := DataW.trod_int Try.underlying2 h1
  obtain ⟨k, l, a, o, p, c, m, e2, e3, e4, e5, e6, e7, e8, hl⟩ := op_cells h2
  have e0 : c0 = .bool b := by simpa using hb
  have e1 : c1 = .int .i64 j := by simpa using hj
  subst e0 e1 e2 e3 e4 e5 e6 e7 e8
  exact ⟨b, j, k, l, a, o, p, c, m, rfl, hl⟩
end U
end Go.Proofs.Ytacaoehcfmblbaa
