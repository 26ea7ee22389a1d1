/- An argument that is an answer, opened: its key, whether it is there, the record. -/
import Derived.Test.YtmjbmlojcieciaaDoorLaw
import Derived.Test.YtmjbmlojcieciaaDoorArgOp
namespace Go.Proofs.YtmjbmlojcieciaaDoor
namespace U
open Go.ChangeShapes Go.WideShapes Go.ChangeAt Go.RowKit
theorem trod_struct3A {H : Type} {enc : TypeId × Value → H} {P : Program} {w : World} {t : TypeId} {f0 f1 f2 : Field} {fuel : Nat} {cs : List Value} {x : DataW H × List MemPlace} (ht : P.underlying t = some (.struct #[f0, f1, f2])) (h : DataW.trod enc P w 0 (fun _ => true) true fuel t cs = some x) :
    ∃ y0 y1 y2 n, DataW.trod enc P w 0 (fun _ => true) true n f0.type ((cs.drop f0.offset).take (P.cellsOf f0.type)) = some y0 ∧ DataW.trod enc P w 0 (fun _ => true) true n f1.type ((cs.drop f1.offset).take (P.cellsOf f1.type)) = some y1 ∧
      DataW.trod enc P w 0 (fun _ => true) true n f2.type ((cs.drop f2.offset).take (P.cellsOf f2.type)) = some y2 := by
  obtain ⟨xs, n, _, rfl, hl, hlen, hf⟩ := DataW.trod_struct ht h
  match xs, hlen with
  | [y0, y1, y2], _ => exact ⟨y0, y1, y2, n, by simpa using hf 0 f0 rfl, by simpa using hf 1 f1 rfl, by simpa using hf 2 f2 rfl⟩
theorem array6A (T : Array Value) (h : T.size = 6) : ∃ v0 v1 v2 v3 v4 v5 : Value, T = #[v0, v1, v2, v3, v4, v5] := by
  rcases T with ⟨l⟩
  match l, h with
  | [a, b, c, d, e, f], _ => exact ⟨a, b, c, d, e, f, rfl⟩
set_option maxRecDepth 100000 in
theorem an_arg {H : Type} {enc : TypeId × Value → H} {W : World} {base : Nat} {v : Value} {d : DataW H} {p : List MemPlace} (hv : Value.okWide Tryd.prog W .any base 41 v) (h : DataW.Trod enc Tryd.prog W 0 (fun _ => true) true 41 v d p) :
    ∃ k t s a o q, v = .agg #[.int .i64 k, .bool t, .string s, .int .i64 a, .int .i64 o, .int .i64 q] ∧ s.size ≤ maxLen := by
  obtain ⟨cs, rfl, hsz⟩ := okWide_struct Tryd.underlying41 hv
  obtain ⟨c0, c1, c2, c3, c4, c5, rfl⟩ := array6A cs (hsz.trans (show Tryd.prog.cellsOf 41 = 6 by kernel_rfl))
  obtain ⟨fuel, hf⟩ := h
  obtain ⟨y0, y1, y2, n, h0, h1, h2⟩ := trod_struct3A Tryd.underlying41 hf
  have k0 : Tryd.prog.cellsOf 4 = 1 := by kernel_rfl
  have k1 : Tryd.prog.cellsOf 2 = 1 := by kernel_rfl
  have k3 : Tryd.prog.cellsOf 39 = 4 := by kernel_rfl
  simp only [Value.cells, k0, k1, k3] at h0 h1 h2
  simp at h0 h1 h2
  obtain ⟨e, he, -⟩ := DataW.trod_int Tryd.underlying2 h0
  obtain ⟨b, hb, -⟩ := DataW.trod_bool Tryd.underlying4 h1
  obtain ⟨s, a, o, q, e2, e3, e4, e5, hs⟩ := rc_cells h2
  have e0 : c0 = .int .i64 e := by simpa using he
  have e1 : c1 = .bool b := by simpa using hb
  subst e0 e1 e2 e3 e4 e5
  exact ⟨e, b, s, a, o, q, rfl, hs⟩
end U
end Go.Proofs.YtmjbmlojcieciaaDoor
