/- An argument that is a head, or a row of heads, opened. -/
import Derived.Test.YtmjbmlojcieciaaDoorLaw
import Derived.Test.YtmjbmlojcieciaaDoorHdM
import Derived.Test.YtmjbmlojcieciaaDoorHdS
import Derived.Deep.SlicePairs
import Derived.Lib.SmallJoins
namespace Go.Proofs.YtmjbmlojcieciaaDoor
namespace U
open Go.ChangeShapes Go.WideShapes Go.ChangeAt Go.RowKit
theorem trod_struct5H {H : Type} {enc : TypeId × Value → H} {P : Program} {w : World} {t : TypeId} {f0 f1 f2 f3 f4 : Field} {fuel : Nat} {cs : List Value} {x : DataW H × List MemPlace} (ht : P.underlying t = some (.struct #[f0, f1, f2, f3, f4])) (h : DataW.trod enc P w 0 (fun _ => true) true fuel t cs = some x) :
    ∃ y0 y1 y2 y3 y4 n, DataW.trod enc P w 0 (fun _ => true) true n f0.type ((cs.drop f0.offset).take (P.cellsOf f0.type)) = some y0 ∧ DataW.trod enc P w 0 (fun _ => true) true n f1.type ((cs.drop f1.offset).take (P.cellsOf f1.type)) = some y1 ∧
      DataW.trod enc P w 0 (fun _ => true) true n f2.type ((cs.drop f2.offset).take (P.cellsOf f2.type)) = some y2 ∧ DataW.trod enc P w 0 (fun _ => true) true n f3.type ((cs.drop f3.offset).take (P.cellsOf f3.type)) = some y3 ∧ DataW.trod enc P w 0 (fun _ => true) true n f4.type ((cs.drop f4.offset).take (P.cellsOf f4.type)) = some y4 := by
  obtain ⟨xs, n, _, rfl, hl, hlen, hf⟩ := DataW.trod_struct ht h
  match xs, hlen with
  | [y0, y1, y2, y3, y4], _ => exact ⟨y0, y1, y2, y3, y4, n, by simpa using hf 0 f0 rfl, by simpa using hf 1 f1 rfl, by simpa using hf 2 f2 rfl, by simpa using hf 3 f3 rfl, by simpa using hf 4 f4 rfl⟩
theorem array5H (T : Array Value) (h : T.size = 5) : ∃ v0 v1 v2 v3 v4 : Value, T = #[v0, v1, v2, v3, v4] := by
  rcases T with ⟨l⟩
  match l, h with
  | [a, b, c, d, e], _ => exact ⟨a, b, c, d, e, rfl⟩
set_option maxRecDepth 100000 in
theorem hd_cells {H : Type} {enc : TypeId × Value → H} {W : World} {n : Nat} {c0 c1 c2 c3 c4 : Value} {y : DataW H × List MemPlace} (hf : DataW.trod enc Tryd.prog W 0 (fun _ => true) true n 30 [c0, c1, c2, c3, c4] = some y) :
    ∃ r : Hd, c0 = .int .i64 r.e ∧ c1 = .int .i64 r.p ∧ c2 = .int .i64 r.o ∧ c3 = .int .i64 r.n ∧ c4 = .int .i64 r.v := by
  obtain ⟨y0, y1, y2, y3, y4, n, h0, h1, h2, h3, h4⟩ := trod_struct5H Tryd.underlying30 hf
  have k1 : Tryd.prog.cellsOf 2 = 1 := by kernel_rfl
  simp only [k1] at h0 h1 h2 h3 h4
  simp at h0 h1 h2 h3 h4
  obtain ⟨a, ha, -⟩ := DataW.trod_int Tryd.underlying2 h0
  obtain ⟨b, hb, -⟩ := DataW.trod_int Tryd.underlying2 h1
  obtain ⟨c, hc, -⟩ := DataW.trod_int Tryd.underlying2 h2
  obtain ⟨d, hd, -⟩ := DataW.trod_int Tryd.underlying2 h3
  obtain ⟨e, he, -⟩ := DataW.trod_int Tryd.underlying2 h4
  exact ⟨⟨a, b, c, d, e⟩, by simpa using ha, by simpa using hb, by simpa using hc, by simpa using hd, by simpa using he⟩
set_option maxRecDepth 100000 in
theorem hd_arg {H : Type} {enc : TypeId × Value → H} {W : World} {base : Nat} {v : Value} {d : DataW H} {p : List MemPlace} (hv : Value.okWide Tryd.prog W .any base 30 v) (h : DataW.Trod enc Tryd.prog W 0 (fun _ => true) true 30 v d p) :
    ∃ a b c d e, v = .agg #[.int .i64 a, .int .i64 b, .int .i64 c, .int .i64 d, .int .i64 e] := by
  obtain ⟨cs, rfl, hsz⟩ := okWide_struct Tryd.underlying30 hv
  obtain ⟨c0, c1, c2, c3, c4, rfl⟩ := array5H cs (hsz.trans (show Tryd.prog.cellsOf 30 = 5 by kernel_rfl))
  obtain ⟨fuel, hf⟩ := h
  obtain ⟨r, rfl, rfl, rfl, rfl, rfl⟩ := hd_cells hf
  exact ⟨_, _, _, _, _, rfl⟩
end U
end Go.Proofs.YtmjbmlojcieciaaDoor
