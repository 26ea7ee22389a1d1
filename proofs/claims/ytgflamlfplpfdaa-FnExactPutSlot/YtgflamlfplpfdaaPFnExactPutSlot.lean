/- The law FnExactPutSlot holds at every list of slots and slot: it answers true, and the list reads as it did. -/
import Derived.Test.YtgflamlfplpfdaaRows
import Derived.Test.YtgflamlfplpfdaaFnExactPutSlotW
import Derived.ProofKit
import Derived.OpenShut
import Derived.ShutString
import Derived.Test.YtgflamlfplpfdaaLaw
import Derived.Test.YtgflamlfplpfdaaArgPrs
namespace Go.Proofs.Ytgflamlfplpfdaa
namespace fnExactPutSlot
open Go.ChangeShapes Go.WideShapes Go.ChangeAt Go.RowKit

theorem laidOut : laidOutB Try.prog = true := by kernel_rfl
theorem own : ownKnob Try.prog.godebug = none := by kernel_rfl

set_option maxRecDepth 100000 in
theorem lifted (os : Os) (started : os.Started) (H : Type) (enc : TypeId × Value → H) :
    ReturnsInHanded {} Try.checked os 10 .any (Rows.fnExactPutSlotSpec.pre6 enc Try.prog Try.f10 Rows.fnExactPutSlotRow.domain false) (Rows.fnExactPutSlotSpec.post enc Try.prog Try.f10 false true false false) := by
  refine returnsInHanded_of_change (C := Try.checked) own started (by kernel_rfl) Try.func10
    (ChangeSpec.witness6 (enc := enc) (C := Try.checked) false ⟨#[], #[.slice none 0 0, .agg #[.int .i64 0, .int .i64 0]], []⟩ 8 (by kernel_rfl) (by kernel_rfl) (by kernel_rfl) (by kernel_rfl)) ?_
  intro W base args ds gs before hval0 hW hcnd _
  have hval : ∀ (j : Nat) t v, Try.f10.params[j]? = some t → args[j]? = some v → Value.okWide Try.prog W .any base t v := hval0
  have hW' := hW
  obtain ⟨p, q, hA0, hV, rfl, hfz, hnd⟩ := hW
  have hA : DataW.TrodAll enc Try.prog W 0 (fun _ => true) true Try.f10.params.toList args.toList ds p := hA0
  rw [Try.params10] at hA hval
  obtain ⟨v0, vs0, d0, ds0, p0, q0, hargs, rfl, rfl, h0, r0⟩ := trodAll_cons hA
  obtain ⟨v1, vs1, d1, ds1, p1, q1, hargs1, rfl, rfl, h1, r1⟩ := trodAll_cons r0
  obtain ⟨rfl, rfl, rfl⟩ := trodAll_nil r1
  obtain rfl : args = #[v0, v1] := by cases args; simp_all
  obtain ⟨rfl, rfl⟩ := trodVars_none hV
  obtain ⟨l0, hl0, hlen0, -⟩ := U.prs_arg Try.underlying69 Try.underlying79 (by kernel_rfl) rfl rfl (by kernel_rfl) (by kernel_rfl) Try.underlying2 Try.underlying2 (hval 0 69 v0 rfl rfl) h0
  obtain ⟨e0, e1, y0, y1, fuel, rfl, rfl, rfl, t0, t1⟩ := Joins.open_agg2 Try.underlying79 (by kernel_rfl) (by kernel_rfl) (hval 1 79 v1 rfl rfl) h1
  obtain ⟨x0, rfl, -, -⟩ := U.ints_of Try.underlying2 t0
  obtain ⟨x1, rfl, -, -⟩ := U.ints_of Try.underlying2 t1
  clear hA0 hval0
  refine (U.fnExactPutSlot_walk v0 l0 x0 x1 W hl0 hlen0).mono fun e W' ⟨he, hg⟩ => ?_
  subst he
  refine ⟨_, rfl, U.law_post (tb := 4) hW' hg laidOut ?_ (fun n hn => by cases hn) (by kernel_rfl) Try.underlying4 rfl rfl rfl⟩
  rw [Try.params10]; intro t ht; simp at ht; rcases ht with rfl | rfl <;> exact ⟨by kernel_rfl, of_decide_eq_true (by kernel_rfl)⟩

theorem over : Rows.fnExactPutSlotRow.holds Try.pinned (OpenSpec.ofChange Rows.fnExactPutSlotSpec) :=
  OpenClaim.holds_of_wide 10 Try.f10 rfl rfl rfl rfl rfl rfl rfl ⟨rfl, rfl, rfl, rfl, rfl⟩ rfl rfl rfl rfl rfl (by kernel_rfl) Try.func10 (by kernel_rfl)
    (of_decide_eq_true (by kernel_rfl)) (by unfold Func.isWrapper; first | (rw [if_pos (by decide +kernel)]; kernel_rfl) | (rw [if_neg (by decide +kernel)]; exact ⟨rfl, rfl⟩))
    (fun os started H enc _ => lifted os started H enc)
end fnExactPutSlot
/-- The law FnExactPutSlot: whatever the arguments, the call returns true and they read as before. -/
theorem fnExactPutSlot_holds : Rows.FnExactPutSlotSaid := fnExactPutSlot.over
#print axioms fnExactPutSlot_holds
end Go.Proofs.Ytgflamlfplpfdaa
