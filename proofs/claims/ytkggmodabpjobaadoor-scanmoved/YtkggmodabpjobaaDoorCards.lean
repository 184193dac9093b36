/-
  DERIVED. GIVEN WITH THE SEED: THE CARDS: each row of YtkggmodabpjobaaDoorRows.lean that lists a variable, with what it lists TIED to the program's text (the seventh form; the later family's looks); each row that meets fmt, with fmt's text TOLD by the authors' own Lean function (tested against real Go, not proved from fmt's source: count such statements apart). THE CARD IS WHAT COUNTS. Prove the row's statement (the work); the ties are given (YtkggmodabpjobaaDoorTie.lean); close each card by the builder's one call (the guide's Derived/Test/ToyasCard.lean, 'card_holds'). Laid BY PROGRAM, IN A SANDBOX (cutbox-door.mjs). By AI agents, Wed Nov 11 2026. No macro, syntax, notation, axiom, sorry.
-/
import Derived.Test.YtkggmodabpjobaaDoorRows
import GoSem.ClaimSeven
namespace Go.Proofs.YtkggmodabpjobaaDoor
namespace Rows

/-- THE TIED CARD OF 'scanfaillaw5.ScanMoved'. -/
def scanMovedCard : Claim7 := { stood := { row := scanMovedRow, standIns := [], harness := (true, "f407c64dd35442b0ca6c2633a484b4dc077ec9bf4e45fdbc86b8efa3063bd660"), looks := false }, kinds := [], alts := [], laidByText := true, laidKinds := [.data, .data, .data, .data], laidTests := true, laidLooks := .later }
def ScanMovedCardSaid : Prop := Claim7.holds Tryd.pinned (.plain (OpenSpec.ofChange scanMovedSpec)) scanMovedCard

/-- THE SECOND FORM's CARD OF 'scanfaillaw5.ScanMoved'. -/
def scanMovedUptoCard : Claim7 := { stood := { row := scanMovedUptoRow, standIns := [], harness := (true, "f407c64dd35442b0ca6c2633a484b4dc077ec9bf4e45fdbc86b8efa3063bd660"), looks := false }, kinds := [], alts := [], laidByText := true, laidKinds := [.data, .data, .data, .data], laidTests := true, laidLooks := .later }
def ScanMovedUptoCardSaid : Prop := Claim7.holds Tryd.pinned (.plain (OpenSpec.upto scanMovedSpec)) scanMovedUptoCard
end Rows
end Go.Proofs.YtkggmodabpjobaaDoor
