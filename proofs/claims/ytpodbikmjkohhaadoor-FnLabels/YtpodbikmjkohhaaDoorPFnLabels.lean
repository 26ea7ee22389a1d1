/- The law FnLabels holds at every whole number: it answers true, and the number reads as it did; the listed variables hold what the program's text lays. -/
import Derived.Test.YtpodbikmjkohhaaDoorCards
import Derived.Test.YtpodbikmjkohhaaDoorTie
import Derived.Test.YtpodbikmjkohhaaDoorFnLabelsW
import Derived.Test.YtpodbikmjkohhaaDoorLaw
import Derived.Test.YtpodbikmjkohhaaDoorArgInts
import Derived.Deep.DeepHandedRow
import Derived.Lib.LaidTab
import Derived.LaidMore
namespace Go.Proofs.YtpodbikmjkohhaaDoor
namespace fnLabels
open Go.ChangeShapes Go.WideShapes Go.ChangeAt Go.RowKit

theorem own : ownKnob Tryd.prog.godebug = none := by kernel_rfl
theorem laidOut : laidOutB Tryd.prog = true := by kernel_rfl
theorem gEnds : Tryd.prog.globalNamed "loop.example/g00602/impl.sizeEnds" = some 0 := by kernel_rfl
theorem gEndsType : (Tryd.prog.globals[0]?).map (·.type) = some 58 := by kernel_rfl
theorem cellsArr : Tryd.prog.cellsOf 58 = 5 := by kernel_rfl
theorem cellsI64 : Tryd.prog.cellsOf 2 = 1 := by kernel_rfl

theorem table {W : World} (h : laidMetH Tryd.prog Rows.fnLabelsRow.laid W) : Lib.TabIs Tryd.prog W "loop.example/g00602/impl.sizeEnds" .i64 [0, 128, 2048, 65536, 1114112] :=
  Lib.tabIs_of_head (rest := []) gEnds gEndsType Tryd.underlying58 Tryd.underlying2 cellsI64 cellsArr h
theorem ends {W : World} (h : laidMetH Tryd.prog Rows.fnLabelsRow.laid W) : U.Ends W := by
  have t := table h
  have c1 := t.cell gEnds 1 (by decide)
  have hg : 0 < W.heap.size := by
    rcases hh : W.heap[0]? with _ | o
    · simp [World.cell?, hh] at c1
    · exact (Array.getElem?_eq_some_iff.1 hh).1
  exact ⟨hg, c1, t.cell gEnds 2 (by decide), t.cell gEnds 3 (by decide), t.cell gEnds 4 (by decide)⟩

theorem contract (H : Type) (enc : TypeId × Value → H) (W : World) (base : Nat) (args : Array Value) (ds gs : List (DataW H)) (before : List MemPlace)
    (hval : ∀ (j : Nat) t v, Tryd.f4.params[j]? = some t → args[j]? = some v → Value.okWide Tryd.prog W .any base t v)
    (hW : DataW.Whole enc Tryd.prog Tryd.f4.params.toList Rows.fnLabelsSpec.vars false W args.toList ds gs before) (hL : laidMetH Tryd.prog Rows.fnLabelsRow.laid W) :
    Calls Tryd.prog 4 args W fun e W' => ∃ v, e = .returned v ∧ Rows.fnLabelsSpec.post enc Tryd.prog Tryd.f4 false true false false W args v W' := by
  have hW' := hW
  obtain ⟨p, q, hA0, hV, rfl, hfz, hnd⟩ := hW
  have hA : DataW.TrodAll enc Tryd.prog W 0 (fun _ => true) true Tryd.f4.params.toList args.toList ds p := hA0
  rw [Tryd.params4] at hA hval
  obtain ⟨v0, vs0, d0, ds0, p0, q0, hargs, rfl, rfl, h0, r0⟩ := trodAll_cons hA
  obtain ⟨rfl, rfl, rfl⟩ := trodAll_nil r0
  obtain rfl : args = #[v0] := by cases args; simp_all
  obtain ⟨g1, t1, cs1, f1, e1, q1, rfl, _⟩ := trodVars_one hV
  obtain ⟨xs, hxs, hlen, hwf⟩ := U.ints_arg Tryd.underlying22 Tryd.underlying5 (by kernel_rfl) (hval 0 22 v0 rfl rfl) h0
  clear hA0
  refine (U.fnLabels_walk v0 xs W hxs hlen hwf (ends hL)).mono fun e W' ⟨he, hg⟩ => ?_
  subst he
  refine ⟨_, rfl, U.law_post (tb := 4) hW' hg laidOut ?_ ?_ (by kernel_rfl) Tryd.underlying4 rfl rfl rfl⟩
  · rw [Tryd.params4]; intro t ht; simp at ht; subst ht; exact ⟨by kernel_rfl, of_decide_eq_true (by kernel_rfl)⟩
  · intro n hn g t h1 h2
    simp [Rows.fnLabelsSpec] at hn
    subst hn
    obtain rfl := Option.some.inj (gEnds.symm.trans h1)
    obtain rfl := Option.some.inj (gEndsType.symm.trans h2)
    exact ⟨by kernel_rfl, of_decide_eq_true (by kernel_rfl)⟩
theorem laid_met (os : Os) : laidMet Tryd.prog Rows.fnLabelsRow.laid ((World.doorLaid Tryd.prog 400 os).forCall (fun _ _ => 0) ⟨#[], #[.slice none 0 0], []⟩).memory :=
  laidMet_of_run' 8 (by kernel_rfl) (by kernel_rfl)
theorem reads (os : Os) {H : Type} (enc : TypeId × Value → H) : DataW.whole enc Tryd.prog ((World.doorLaid Tryd.prog 400 os).forCall (fun _ _ => 0) ⟨#[], #[.slice none 0 0], []⟩).memory Tryd.f4.params.toList Rows.fnLabelsSpec.vars false #[Value.slice none 0 0].toList 8 = some ([.nil], [Rows.laid_loop_example_g00602_impl_sizeEnds], MemPlace.row ⟨0, 0, none⟩ 5) := by kernel_rfl

set_option maxRecDepth 100000 in
theorem lifted (os : Os) (started : os.Started) (H : Type) (enc : TypeId × Value → H) (F : Stop.Interp) :
    ReturnsInHanded {} Tryd.checked os 4 .any ((OpenSpec.ofChange Rows.fnLabelsSpec).preRow enc Tryd.prog Tryd.f4 Rows.fnLabelsRow.domain false Rows.fnLabelsRow.laid) (((OpenSpec.ofChange Rows.fnLabelsSpec).at F).post enc Tryd.prog Tryd.f4 false true false false) := by
  refine returnsInHanded_of_row (C := Tryd.checked) (s := OpenSpec.ofChange Rows.fnLabelsSpec) own started (by kernel_rfl) Tryd.func4
    (witness_row_at (enc := enc) (C := Tryd.checked) false (World.doorLaid Tryd.prog 400 os) #[.slice none 0 0] rfl (by kernel_rfl) (by kernel_rfl) (by kernel_rfl)
      (OpenSpec.preRow_of_cond 8 (reads os enc) (by kernel_rfl) (fun k hk => by cases hk) (by kernel_rfl) (laid_met os))) ?_
  intro W base args ds gs before hval hW _ _ _ hL _ _
  exact contract H enc W base args ds gs before hval hW hL

theorem said : Rows.FnLabelsSaid :=
  OpenClaim.holds_of_cond 4 Tryd.f4 rfl rfl rfl rfl rfl rfl rfl ⟨rfl, rfl, rfl, rfl, rfl⟩ rfl rfl rfl rfl rfl (by kernel_rfl) Tryd.func4 (by kernel_rfl)
    (of_decide_eq_true (by kernel_rfl)) (by unfold Func.isWrapper; first | (rw [if_pos (by decide +kernel)]; kernel_rfl) | (rw [if_neg (by decide +kernel)]; exact ⟨rfl, rfl⟩))
    (fun os started H enc _ F => by rw [OpenClaim.pre_eq_preRow]; exact lifted os started H enc F)

theorem plain (f : FuncId) (fn : Func) (hf : Tryd.pinned.checked.prog.funcNamed "loop.example/g00602/laws.FnLabels" = some f) (hfn : Tryd.pinned.checked.prog.funcs[f]? = some fn) :
    false = Tryd.pinned.checked.prog.looks [] ∧ ∀ (j : Nat) t, fn.params[j]? = some t → Tryd.pinned.checked.prog.wantsStandIn t = false := by
  obtain rfl : f = 4 := Option.some.inj ((show Tryd.prog.funcNamed "loop.example/g00602/laws.FnLabels" = some 4 by kernel_rfl).symm.trans hf) |>.symm
  obtain rfl : fn = Tryd.f4 := (Option.some.inj (Tryd.func4.symm.trans hfn)).symm
  refine ⟨by kernel_rfl, fun j t ht => ?_⟩
  rw [Tryd.params4] at ht
  obtain rfl : t = 22 := by simpa using Array.mem_of_getElem? ht
  exact (show Tryd.prog.wantsStandIn 22 = false by kernel_rfl)
end fnLabels
/-- The card of FnLabels: whatever the number, the call returns true and the number reads as before. -/
theorem fnLabels_holds : Rows.FnLabelsCardSaid :=
  Claim7.holds_tied_plain_at .later [] _ _ _ _ fnLabels.said (fun _ h => by cases h) (by kernel_rfl) (fun _ h => by cases h) fnLabels_row_tie rfl ⟨rfl, rfl⟩ (by kernel_rfl) rfl fnLabels.plain (by kernel_rfl)
#print axioms fnLabels_holds
end Go.Proofs.YtpodbikmjkohhaaDoor
