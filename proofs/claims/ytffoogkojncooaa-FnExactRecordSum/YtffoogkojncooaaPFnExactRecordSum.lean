/- The law FnExactRecordSum holds at every record that is handed in: it answers true, and the record reads as it did. -/
import Derived.Test.YtffoogkojncooaaRows
import Derived.Test.YtffoogkojncooaaFnExactRecordSumW
import Derived.ProofKit
import Derived.OpenShut
import Derived.ShutString
import Derived.Test.YtffoogkojncooaaLaw
import Derived.Test.YtffoogkojncooaaArgField
namespace Go.Proofs.Ytffoogkojncooaa
namespace fnExactRecordSum
open Go.ChangeShapes Go.WideShapes Go.ChangeAt Go.RowKit

theorem laidOut : laidOutB Try.prog = true := by kernel_rfl
theorem own : ownKnob Try.prog.godebug = none := by kernel_rfl

set_option maxRecDepth 100000 in
theorem lifted (os : Os) (started : os.Started) (H : Type) (enc : TypeId × Value → H) :
    ReturnsInHanded {} Try.checked os 5 .any (Rows.fnExactRecordSumSpec.pre6 enc Try.prog Try.f5 Rows.fnExactRecordSumRow.domain false) (Rows.fnExactRecordSumSpec.post enc Try.prog Try.f5 false true false false) := by
  refine returnsInHanded_of_change (C := Try.checked) own started (by kernel_rfl) Try.func5
    (ChangeSpec.witness6 (enc := enc) (C := Try.checked) false ⟨#[], #[.agg #[.string ByteArray.empty, .int .i64 0, .int .i64 0, .int .i64 0]], []⟩ 8 (by kernel_rfl) (by kernel_rfl) (by kernel_rfl) (by kernel_rfl)) ?_
  intro W base args ds gs before hval0 hW hcnd _
  have hval : ∀ (j : Nat) t v, Try.f5.params[j]? = some t → args[j]? = some v → Value.okWide Try.prog W .any base t v := hval0
  have hW' := hW
  obtain ⟨p, q, hA0, hV, rfl, hfz, hnd⟩ := hW
  have hA : DataW.TrodAll enc Try.prog W 0 (fun _ => true) true Try.f5.params.toList args.toList ds p := hA0
  rw [Try.params5] at hA hval
  obtain ⟨v0, vs0, d0, ds0, p0, q0, hargs, rfl, rfl, h0, r0⟩ := trodAll_cons hA
  obtain ⟨rfl, rfl, rfl⟩ := trodAll_nil r0
  obtain rfl : args = #[v0] := by cases args; simp_all
  obtain ⟨rfl, rfl⟩ := trodVars_none hV
  obtain ⟨e0, e1, e2, e3, y0, y1, y2, y3, fuel, rfl, rfl, rfl, t0, t1, t2, t3⟩ := Joins.open_agg4 Try.underlying23 (by kernel_rfl) (by kernel_rfl) (hval 0 23 v0 rfl rfl) h0
  obtain ⟨s, hs0, hy0, hs⟩ := DataW.trod_string Try.underlying9 t0
  obtain rfl : e0 = .string s := by simpa using hs0
  obtain ⟨n1, hn1, hy1, hw1⟩ := DataW.trod_int Try.underlying2 t1
  obtain rfl : e1 = .int .i64 n1 := by simpa using hn1
  obtain ⟨n2, hn2, hy2, hw2⟩ := DataW.trod_int Try.underlying2 t2
  obtain rfl : e2 = .int .i64 n2 := by simpa using hn2
  obtain ⟨n3, hn3, hy3, hw3⟩ := DataW.trod_int Try.underlying2 t3
  obtain rfl : e3 = .int .i64 n3 := by simpa using hn3
  clear hA0 hval0
  refine (U.fnExactRecordSum_walk s n1 n2 n3 hs W).mono fun e W' ⟨he, hg⟩ => ?_
  subst he
  refine ⟨_, rfl, U.law_post (tb := 4) hW' hg laidOut ?_ (fun n hn => by cases hn) (by kernel_rfl) Try.underlying4 rfl rfl rfl⟩
  rw [Try.params5]; intro t ht; simp at ht; subst ht; exact ⟨by kernel_rfl, of_decide_eq_true (by kernel_rfl)⟩

theorem over : Rows.fnExactRecordSumRow.holds Try.pinned (OpenSpec.ofChange Rows.fnExactRecordSumSpec) :=
  OpenClaim.holds_of_wide 5 Try.f5 rfl rfl rfl rfl rfl rfl rfl ⟨rfl, rfl, rfl, rfl, rfl⟩ rfl rfl rfl rfl rfl (by kernel_rfl) Try.func5 (by kernel_rfl)
    (of_decide_eq_true (by kernel_rfl)) (by unfold Func.isWrapper; first | (rw [if_pos (by decide +kernel)]; kernel_rfl) | (rw [if_neg (by decide +kernel)]; exact ⟨rfl, rfl⟩))
    (fun os started H enc _ => lifted os started H enc)
end fnExactRecordSum
/-- The law FnExactRecordSum: whatever the arguments, the call returns true and they read as before. -/
theorem fnExactRecordSum_holds : Rows.FnExactRecordSumSaid := fnExactRecordSum.over
#print axioms fnExactRecordSum_holds
end Go.Proofs.Ytffoogkojncooaa
