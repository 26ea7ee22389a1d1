/- The law FnRunes holds at every list of bytes: it answers true, and the list reads as it did; the listed variables hold what the program's text lays. -/
import Derived.Test.YtjkhhcpiladidaaDoorCards
import Derived.Test.YtjkhhcpiladidaaDoorTie
import Derived.Test.YtjkhhcpiladidaaDoorFnRunesW
import Derived.Test.YtjkhhcpiladidaaDoorLaw
import Derived.Test.YtjkhhcpiladidaaDoorArgInts
import Derived.Deep.DeepHandedRow
import Derived.Lib.LaidTab
import Derived.LaidMore
namespace Go.Proofs.YtjkhhcpiladidaaDoor
namespace fnRunes
open Go.ChangeShapes Go.WideShapes Go.ChangeAt Go.RowKit

theorem own : ownKnob Tryd.prog.godebug = none := by kernel_rfl
theorem laidOut : laidOutB Tryd.prog = true := by kernel_rfl
theorem gEnds : Tryd.prog.globalNamed "loop.example/g00602/impl.sizeEnds" = some 0 := by kernel_rfl
theorem gEndsType : (Tryd.prog.globals[0]?).map (·.type) = some 68 := by kernel_rfl
theorem cellsArr : Tryd.prog.cellsOf 68 = 5 := by kernel_rfl
theorem cellsEl : Tryd.prog.cellsOf 5 = 1 := by kernel_rfl
theorem cellsI64 : Tryd.prog.cellsOf 2 = 1 := by kernel_rfl

theorem gLeads : Tryd.prog.globalNamed "loop.example/g00602/impl.leads" = some 1 := by kernel_rfl
theorem gLeadsType : (Tryd.prog.globals[1]?).map (·.type) = some 68 := by kernel_rfl
theorem there {W : World} {g j : Nat} {v : Value} (c1 : W.cell? ⟨g, j, none⟩ = some v) : g < W.heap.size := by
  rcases hh : W.heap[g]? with _ | o
  · simp [World.cell?, hh] at c1
  · exact (Array.getElem?_eq_some_iff.1 hh).1
theorem tables {W : World} (h : laidMetH Tryd.prog Rows.fnRunesRow.laid W) : U.Ends W ∧ U.Leads W := by
  have h2 : laidMet Tryd.prog [("loop.example/g00602/impl.leads", Lib.tabData .i64 [0, 0, 192, 224, 240]), ("loop.example/g00602/impl.sizeEnds", Lib.tabData .i64 [0, 128, 2048, 65536, 1114112])] W := h
  have t1 := Lib.tabIs_of_head gLeads gLeadsType Tryd.underlying68 Tryd.underlying2 cellsI64 cellsArr h2
  obtain ⟨ps, ⟨g0, ty0, cs0, f0, p0, q0, _, _, _, _, ⟨g1, ty1, cs1, f1, p1, q1, hg1, hty1, hv1, hd1, _, _⟩, _⟩, _, _⟩ := h2
  obtain rfl := Option.some.inj (gEnds.symm.trans hg1)
  obtain rfl := Option.some.inj (gEndsType.symm.trans hty1)
  have t2 : Lib.TabIs Tryd.prog W "loop.example/g00602/impl.sizeEnds" .i64 [0, 128, 2048, 65536, 1114112] := by
    unfold Lib.TabIs
    rw [hv1, ← Lib.cells_of_tab Tryd.underlying68 Tryd.underlying2 cellsI64 cellsArr hd1]
  exact ⟨⟨there (t2.cell gEnds 1 (by decide)), t2.cell gEnds 1 (by decide), t2.cell gEnds 2 (by decide), t2.cell gEnds 3 (by decide), t2.cell gEnds 4 (by decide)⟩,
    ⟨there (t1.cell gLeads 1 (by decide)), t1.cell gLeads 1 (by decide), t1.cell gLeads 2 (by decide), t1.cell gLeads 3 (by decide), t1.cell gLeads 4 (by decide)⟩⟩

set_option maxRecDepth 100000 in
theorem contract (H : Type) (enc : TypeId × Value → H) (W : World) (base : Nat) (args : Array Value) (ds gs : List (DataW H)) (before : List MemPlace)
    (hval : ∀ (j : Nat) t v, Tryd.f3.params[j]? = some t → args[j]? = some v → Value.okWide Tryd.prog W .any base t v)
    (hW : DataW.Whole enc Tryd.prog Tryd.f3.params.toList Rows.fnRunesSpec.vars false W args.toList ds gs before) (hL : laidMetH Tryd.prog Rows.fnRunesRow.laid W) :
    Calls Tryd.prog 3 args W fun e W' => ∃ v, e = .returned v ∧ Rows.fnRunesSpec.post enc Tryd.prog Tryd.f3 false true false false W args v W' := by
  have hW' := hW
  obtain ⟨p, q, hA0, hV, rfl, hfz, hnd⟩ := hW
  have hA : DataW.TrodAll enc Tryd.prog W 0 (fun _ => true) true Tryd.f3.params.toList args.toList ds p := hA0
  rw [Tryd.params3] at hA hval
  obtain ⟨v0, vs0, d0, ds0, p0, q0, hargs, rfl, rfl, h0, r0⟩ := trodAll_cons hA
  obtain ⟨rfl, rfl, rfl⟩ := trodAll_nil r0
  obtain rfl : args = #[v0] := by cases args; simp_all
  obtain ⟨_, _, _, _, e0, _, _, _, _, _, e1, _, rfl, _⟩ := trodVars_two hV
  obtain ⟨xs, hxs, hlen, hwf⟩ := U.ints_arg Tryd.underlying22 Tryd.underlying5 cellsEl (hval 0 22 v0 rfl rfl) h0
  clear hA0
  refine (U.fnRunes_walk v0 xs W hxs hlen hwf (tables hL).1 (tables hL).2).mono fun e W' ⟨he, hg⟩ => ?_
  subst he
  refine ⟨_, rfl, U.law_post (tb := 4) hW' hg laidOut ?_ ?_ (by kernel_rfl) Tryd.underlying4 rfl rfl rfl⟩
  · rw [Tryd.params3]; intro t ht; simp at ht; subst ht; exact ⟨by kernel_rfl, of_decide_eq_true (by kernel_rfl)⟩
  · intro n hn g t h1 h2
    simp [Rows.fnRunesSpec] at hn
    rcases hn with rfl | rfl
    · obtain rfl := Option.some.inj (gEnds.symm.trans h1)
      obtain rfl := Option.some.inj (gEndsType.symm.trans h2)
      exact ⟨by kernel_rfl, of_decide_eq_true (by kernel_rfl)⟩
    · obtain rfl := Option.some.inj (gLeads.symm.trans h1)
      obtain rfl := Option.some.inj (gLeadsType.symm.trans h2)
      exact ⟨by kernel_rfl, of_decide_eq_true (by kernel_rfl)⟩
theorem laid_met (os : Os) : laidMet Tryd.prog Rows.fnRunesRow.laid ((World.doorLaid Tryd.prog 400 os).forCall (fun _ _ => 0) ⟨#[], #[.slice none 0 0], []⟩).memory :=
  laidMet_of_run' 8 (by kernel_rfl) (by kernel_rfl)
theorem reads (os : Os) {H : Type} (enc : TypeId × Value → H) : DataW.whole enc Tryd.prog ((World.doorLaid Tryd.prog 400 os).forCall (fun _ _ => 0) ⟨#[], #[.slice none 0 0], []⟩).memory Tryd.f3.params.toList Rows.fnRunesSpec.vars false #[Value.slice none 0 0].toList 8 = some ([.nil], [Rows.laid_loop_example_g00602_impl_sizeEnds, Rows.laid_loop_example_g00602_impl_leads], MemPlace.row ⟨0, 0, none⟩ 5 ++ MemPlace.row ⟨1, 0, none⟩ 5) := by kernel_rfl

set_option maxRecDepth 100000 in
theorem lifted (os : Os) (started : os.Started) (H : Type) (enc : TypeId × Value → H) (F : Stop.Interp) :
    ReturnsInHanded {} Tryd.checked os 3 .any ((OpenSpec.ofChange Rows.fnRunesSpec).preRow enc Tryd.prog Tryd.f3 Rows.fnRunesRow.domain false Rows.fnRunesRow.laid) (((OpenSpec.ofChange Rows.fnRunesSpec).at F).post enc Tryd.prog Tryd.f3 false true false false) := by
  refine returnsInHanded_of_row (C := Tryd.checked) (s := OpenSpec.ofChange Rows.fnRunesSpec) own started (by kernel_rfl) Tryd.func3
    (witness_row_at (enc := enc) (C := Tryd.checked) false (World.doorLaid Tryd.prog 400 os) #[.slice none 0 0] rfl (by kernel_rfl) (by kernel_rfl) (by kernel_rfl)
      (OpenSpec.preRow_of_cond 8 (reads os enc) (by kernel_rfl) (fun k hk => by cases hk) (by kernel_rfl) (laid_met os))) ?_
  intro W base args ds gs before hval hW _ _ _ hL _ _
  exact contract H enc W base args ds gs before hval hW hL

theorem said : Rows.FnRunesSaid :=
  OpenClaim.holds_of_cond 3 Tryd.f3 rfl rfl rfl rfl rfl rfl rfl ⟨rfl, rfl, rfl, rfl, rfl⟩ rfl rfl rfl rfl rfl (by kernel_rfl) Tryd.func3 (by kernel_rfl)
    (of_decide_eq_true (by kernel_rfl)) (by unfold Func.isWrapper; first | (rw [if_pos (by decide +kernel)]; kernel_rfl) | (rw [if_neg (by decide +kernel)]; exact ⟨rfl, rfl⟩))
    (fun os started H enc _ F => by rw [OpenClaim.pre_eq_preRow]; exact lifted os started H enc F)

theorem plain (f : FuncId) (fn : Func) (hf : Tryd.pinned.checked.prog.funcNamed "loop.example/g00602/laws.FnRunes" = some f) (hfn : Tryd.pinned.checked.prog.funcs[f]? = some fn) :
    false = Tryd.pinned.checked.prog.looks [] ∧ ∀ (j : Nat) t, fn.params[j]? = some t → Tryd.pinned.checked.prog.wantsStandIn t = false := by
  obtain rfl : f = 3 := Option.some.inj ((show Tryd.prog.funcNamed "loop.example/g00602/laws.FnRunes" = some 3 by kernel_rfl).symm.trans hf) |>.symm
  obtain rfl : fn = Tryd.f3 := (Option.some.inj (Tryd.func3.symm.trans hfn)).symm
  refine ⟨by kernel_rfl, fun j t ht => ?_⟩
  rw [Tryd.params3] at ht
  obtain rfl : t = 22 := by simpa using Array.mem_of_getElem? ht
  exact (show Tryd.prog.wantsStandIn 22 = false by kernel_rfl)
end fnRunes
/-- The card of FnRunes: whatever the list, the call returns true and the list reads as before. -/
theorem fnRunes_holds : Rows.FnRunesCardSaid :=
  Claim7.holds_tied_plain_at .later [] _ _ _ _ fnRunes.said (fun _ h => by cases h) (by kernel_rfl) (fun _ h => by cases h) fnRunes_row_tie rfl ⟨rfl, rfl⟩ (by kernel_rfl) rfl fnRunes.plain (by kernel_rfl)
#print axioms fnRunes_holds
end Go.Proofs.YtjkhhcpiladidaaDoor
