/- An argument that is an operation, opened: its kind, its record, its secret, its number. -/
import Derived.Test.YtdbbmclobmigdaaGreatArgField
import Derived.Test.YtdbbmclobmigdaaGreatLaw
namespace Go.Proofs.YtdbbmclobmigdaaGreat
namespace U
open Go.ChangeShapes Go.WideShapes Go.ChangeAt Go.RowKit
theorem array7O (T : Array Value) (h : T.size = 7) : ∃ v0 v1 v2 v3 v4 v5 v6 : Value, T = #[v0, v1, v2, v3, v4, v5, v6] := by
  rcases T with ⟨l⟩
  match l, h with
  | [a, b, c, d, e, f, g], _ => exact ⟨a, b, c, d, e, f, g, rfl⟩
theorem trod_struct4O {H : Type} {enc : TypeId × Value → H} {P : Program} {w : World} {t : TypeId} {f0 f1 f2 f3 : Field} {fuel : Nat} {cs : List Value} {x : DataW H × List MemPlace} (ht : P.underlying t = some (.struct #[f0, f1, f2, f3])) (h : DataW.trod enc P w 0 (fun _ => true) true fuel t cs = some x) :
    ∃ y0 y1 y2 y3 n, DataW.trod enc P w 0 (fun _ => true) true n f0.type ((cs.drop f0.offset).take (P.cellsOf f0.type)) = some y0 ∧ DataW.trod enc P w 0 (fun _ => true) true n f1.type ((cs.drop f1.offset).take (P.cellsOf f1.type)) = some y1 ∧
      DataW.trod enc P w 0 (fun _ => true) true n f2.type ((cs.drop f2.offset).take (P.cellsOf f2.type)) = some y2 ∧ DataW.trod enc P w 0 (fun _ => true) true n f3.type ((cs.drop f3.offset).take (P.cellsOf f3.type)) = some y3 := by
  obtain ⟨xs, n, _, rfl, hl, hlen, hf⟩ := DataW.trod_struct ht h
  match xs, hlen with
  | [y0, y1, y2, y3], _ => exact ⟨y0, y1, y2, y3, n, by simpa using hf 0 f0 rfl, by simpa using hf 1 f1 rfl, by simpa using hf 2 f2 rfl, by simpa using hf 3 f3 rfl⟩
set_option maxRecDepth 100000 in
theorem rc_cells {H : Type} {enc : TypeId × Value → H} {W : World} {n : Nat} {c0 c1 c2 c3 : Value} {y : DataW H × List MemPlace} (hf : DataW.trod enc Tryz.prog W 0 (fun _ => true) true n 25 [c0, c1, c2, c3] = some y) :
    ∃ s v o p, c0 = .string s ∧ c1 = .int .i64 v ∧ c2 = .int .i64 o ∧ c3 = .int .i64 p ∧ s.size ≤ maxLen := by
  obtain ⟨y0, y1, y2, y3, n, h0, h1, h2, h3⟩ := trod_struct4O Tryz.underlying25 hf
  have k0 : Tryz.prog.cellsOf 9 = 1 := by kernel_rfl
  have k1 : Tryz.prog.cellsOf 2 = 1 := by kernel_rfl
  simp only [k0, k1] at h0 h1 h2 h3
  simp at h0 h1 h2 h3
  obtain ⟨s, hs0, -, hs⟩ := DataW.trod_string Tryz.underlying9 h0
  obtain ⟨a, ha, -⟩ := DataW.trod_int Tryz.underlying2 h1
  obtain ⟨b, hb, -⟩ := DataW.trod_int Tryz.underlying2 h2
  obtain ⟨c, hc, -⟩ := DataW.trod_int Tryz.underlying2 h3
  exact ⟨s, a, b, c, by simpa using hs0, by simpa using ha, by simpa using hb, by simpa using hc, hs⟩
end U
end Go.Proofs.YtdbbmclobmigdaaGreat
