/-
  DERIVED. GIVEN WITH THE SEED: THE CARDS: each row of YtljbcpkjhnbpeaaGreatDoorRows.lean that lists a variable, with what it lists TIED to the program's text (the seventh form; the later family's looks); each row that meets fmt, with fmt's text TOLD by the authors' own Lean function (tested against real Go, not proved from fmt's source: count such statements apart). THE CARD IS WHAT COUNTS. Prove the row's statement (the work); the ties are given (YtljbcpkjhnbpeaaGreatDoorTie.lean); close each card by the builder's one call (the guide's Derived/Test/ToyasCard.lean, 'card_holds'). Laid BY PROGRAM, IN A SANDBOX (cutbox-door.mjs). By AI agents, Wed Nov 11 2026. No macro, syntax, notation, axiom, sorry.
-/
import Derived.Test.YtljbcpkjhnbpeaaGreatDoorRows
import GoSem.ClaimSeven
namespace Go.Proofs.YtljbcpkjhnbpeaaGreatDoor
namespace Rows

/-- THE TIED CARD OF 'laws.FnNewTrue'. -/
def fnNewTrueCard : Claim7 := { stood := { row := fnNewTrueRow, standIns := [], harness := (true, "f23dc5a0d1cb12523a3a64ca60a67137ea54d0140b7e7bfc6c3a3eb2dc44e2b6"), looks := true }, kinds := [], alts := [], laidByText := true, laidKinds := [.handle], laidTests := true, laidLooks := .later }
def FnNewTrueCardSaid : Prop := Claim7.holds Tryz.pinned (.plain (OpenSpec.ofChange fnNewTrueSpec)) fnNewTrueCard

/-- THE TIED CARD OF 'laws.FnBothTrue'. -/
def fnBothTrueCard : Claim7 := { stood := { row := fnBothTrueRow, standIns := [], harness := (true, "f23dc5a0d1cb12523a3a64ca60a67137ea54d0140b7e7bfc6c3a3eb2dc44e2b6"), looks := true }, kinds := [], alts := [], laidByText := true, laidKinds := [.handle], laidTests := true, laidLooks := .later }
def FnBothTrueCardSaid : Prop := Claim7.holds Tryz.pinned (.plain (OpenSpec.ofChange fnBothTrueSpec)) fnBothTrueCard

/-- THE TIED CARD OF 'laws.FnTreesTrue'. -/
def fnTreesTrueCard : Claim7 := { stood := { row := fnTreesTrueRow, standIns := [], harness := (true, "f23dc5a0d1cb12523a3a64ca60a67137ea54d0140b7e7bfc6c3a3eb2dc44e2b6"), looks := true }, kinds := [], alts := [], laidByText := true, laidKinds := [.handle], laidTests := true, laidLooks := .later }
def FnTreesTrueCardSaid : Prop := Claim7.holds Tryz.pinned (.plain (OpenSpec.ofChange fnTreesTrueSpec)) fnTreesTrueCard

/-- THE TIED CARD OF 'laws.FnExactNewClash'. -/
def fnExactNewClashCard : Claim7 := { stood := { row := fnExactNewClashRow, standIns := [], harness := (true, "f23dc5a0d1cb12523a3a64ca60a67137ea54d0140b7e7bfc6c3a3eb2dc44e2b6"), looks := true }, kinds := [], alts := [], laidByText := true, laidKinds := [.handle], laidTests := true, laidLooks := .later }
def FnExactNewClashCardSaid : Prop := Claim7.holds Tryz.pinned (.plain (OpenSpec.ofChange fnExactNewClashSpec)) fnExactNewClashCard

/-- THE TIED CARD OF 'laws.FnExactBothClash'. -/
def fnExactBothClashCard : Claim7 := { stood := { row := fnExactBothClashRow, standIns := [], harness := (true, "f23dc5a0d1cb12523a3a64ca60a67137ea54d0140b7e7bfc6c3a3eb2dc44e2b6"), looks := true }, kinds := [], alts := [], laidByText := true, laidKinds := [.handle], laidTests := true, laidLooks := .later }
def FnExactBothClashCardSaid : Prop := Claim7.holds Tryz.pinned (.plain (OpenSpec.ofChange fnExactBothClashSpec)) fnExactBothClashCard

/-- THE SECOND FORM's CARD OF 'laws.FnNewTrue'. -/
def fnNewTrueUptoCard : Claim7 := { stood := { row := fnNewTrueUptoRow, standIns := [], harness := (true, "f23dc5a0d1cb12523a3a64ca60a67137ea54d0140b7e7bfc6c3a3eb2dc44e2b6"), looks := true }, kinds := [], alts := [], laidByText := true, laidKinds := [.handle], laidTests := true, laidLooks := .later }
def FnNewTrueUptoCardSaid : Prop := Claim7.holds Tryz.pinned (.plain (OpenSpec.upto fnNewTrueSpec)) fnNewTrueUptoCard

/-- THE SECOND FORM's CARD OF 'laws.FnBothTrue'. -/
def fnBothTrueUptoCard : Claim7 := { stood := { row := fnBothTrueUptoRow, standIns := [], harness := (true, "f23dc5a0d1cb12523a3a64ca60a67137ea54d0140b7e7bfc6c3a3eb2dc44e2b6"), looks := true }, kinds := [], alts := [], laidByText := true, laidKinds := [.handle], laidTests := true, laidLooks := .later }
def FnBothTrueUptoCardSaid : Prop := Claim7.holds Tryz.pinned (.plain (OpenSpec.upto fnBothTrueSpec)) fnBothTrueUptoCard

/-- THE SECOND FORM's CARD OF 'laws.FnTreesTrue'. -/
def fnTreesTrueUptoCard : Claim7 := { stood := { row := fnTreesTrueUptoRow, standIns := [], harness := (true, "f23dc5a0d1cb12523a3a64ca60a67137ea54d0140b7e7bfc6c3a3eb2dc44e2b6"), looks := true }, kinds := [], alts := [], laidByText := true, laidKinds := [.handle], laidTests := true, laidLooks := .later }
def FnTreesTrueUptoCardSaid : Prop := Claim7.holds Tryz.pinned (.plain (OpenSpec.upto fnTreesTrueSpec)) fnTreesTrueUptoCard

/-- THE SECOND FORM's CARD OF 'laws.FnExactNewClash'. -/
def fnExactNewClashUptoCard : Claim7 := { stood := { row := fnExactNewClashUptoRow, standIns := [], harness := (true, "f23dc5a0d1cb12523a3a64ca60a67137ea54d0140b7e7bfc6c3a3eb2dc44e2b6"), looks := true }, kinds := [], alts := [], laidByText := true, laidKinds := [.handle], laidTests := true, laidLooks := .later }
def FnExactNewClashUptoCardSaid : Prop := Claim7.holds Tryz.pinned (.plain (OpenSpec.upto fnExactNewClashSpec)) fnExactNewClashUptoCard

/-- THE SECOND FORM's CARD OF 'laws.FnExactBothClash'. -/
def fnExactBothClashUptoCard : Claim7 := { stood := { row := fnExactBothClashUptoRow, standIns := [], harness := (true, "f23dc5a0d1cb12523a3a64ca60a67137ea54d0140b7e7bfc6c3a3eb2dc44e2b6"), looks := true }, kinds := [], alts := [], laidByText := true, laidKinds := [.handle], laidTests := true, laidLooks := .later }
def FnExactBothClashUptoCardSaid : Prop := Claim7.holds Tryz.pinned (.plain (OpenSpec.upto fnExactBothClashSpec)) fnExactBothClashUptoCard
end Rows
end Go.Proofs.YtljbcpkjhnbpeaaGreatDoor
