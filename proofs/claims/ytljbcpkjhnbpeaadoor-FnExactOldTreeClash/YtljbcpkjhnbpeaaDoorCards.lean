/-
  DERIVED. GIVEN WITH THE SEED: THE CARDS: each row of YtljbcpkjhnbpeaaDoorRows.lean that lists a variable, with what it lists TIED to the program's text (the seventh form; the later family's looks); each row that meets fmt, with fmt's text TOLD by the authors' own Lean function (tested against real Go, not proved from fmt's source: count such statements apart). THE CARD IS WHAT COUNTS. Prove the row's statement (the work); the ties are given (YtljbcpkjhnbpeaaDoorTie.lean); close each card by the builder's one call (the guide's Derived/Test/ToyasCard.lean, 'card_holds'). Laid BY PROGRAM, IN A SANDBOX (cutbox-door.mjs). By AI agents, Wed Nov 11 2026. No macro, syntax, notation, axiom, sorry.
-/
import Derived.Test.YtljbcpkjhnbpeaaDoorRows
import GoSem.ClaimSeven
namespace Go.Proofs.YtljbcpkjhnbpeaaDoor
namespace Rows

/-- THE TIED CARD OF 'laws.FnExactTreeClash'. -/
def fnExactTreeClashCard : Claim7 := { stood := { row := fnExactTreeClashRow, standIns := [], harness := (true, "57527eac0793d0c155816ad40b10a86efcdbe873d3c60ec339b5a6cd67eff045"), looks := true }, kinds := [], alts := [], laidByText := true, laidKinds := [.handle], laidTests := true, laidLooks := .later }
def FnExactTreeClashCardSaid : Prop := Claim7.holds Tryd.pinned (.plain (OpenSpec.ofChange fnExactTreeClashSpec)) fnExactTreeClashCard

/-- THE TIED CARD OF 'laws.FnExactOldTreeClash'. -/
def fnExactOldTreeClashCard : Claim7 := { stood := { row := fnExactOldTreeClashRow, standIns := [], harness := (true, "57527eac0793d0c155816ad40b10a86efcdbe873d3c60ec339b5a6cd67eff045"), looks := true }, kinds := [], alts := [], laidByText := true, laidKinds := [.handle], laidTests := true, laidLooks := .later }
def FnExactOldTreeClashCardSaid : Prop := Claim7.holds Tryd.pinned (.plain (OpenSpec.ofChange fnExactOldTreeClashSpec)) fnExactOldTreeClashCard

/-- THE SECOND FORM's CARD OF 'laws.FnExactTreeClash'. -/
def fnExactTreeClashUptoCard : Claim7 := { stood := { row := fnExactTreeClashUptoRow, standIns := [], harness := (true, "57527eac0793d0c155816ad40b10a86efcdbe873d3c60ec339b5a6cd67eff045"), looks := true }, kinds := [], alts := [], laidByText := true, laidKinds := [.handle], laidTests := true, laidLooks := .later }
def FnExactTreeClashUptoCardSaid : Prop := Claim7.holds Tryd.pinned (.plain (OpenSpec.upto fnExactTreeClashSpec)) fnExactTreeClashUptoCard

/-- THE SECOND FORM's CARD OF 'laws.FnExactOldTreeClash'. -/
def fnExactOldTreeClashUptoCard : Claim7 := { stood := { row := fnExactOldTreeClashUptoRow, standIns := [], harness := (true, "57527eac0793d0c155816ad40b10a86efcdbe873d3c60ec339b5a6cd67eff045"), looks := true }, kinds := [], alts := [], laidByText := true, laidKinds := [.handle], laidTests := true, laidLooks := .later }
def FnExactOldTreeClashUptoCardSaid : Prop := Claim7.holds Tryd.pinned (.plain (OpenSpec.upto fnExactOldTreeClashSpec)) fnExactOldTreeClashUptoCard
end Rows
end Go.Proofs.YtljbcpkjhnbpeaaDoor
