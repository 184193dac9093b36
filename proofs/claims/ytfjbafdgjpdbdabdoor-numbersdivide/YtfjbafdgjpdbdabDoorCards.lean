/-
  DERIVED. GIVEN WITH THE SEED: THE CARDS: each row of YtfjbafdgjpdbdabDoorRows.lean that lists a variable, with what it lists TIED to the program's text (the seventh form; the later family's looks); each row that meets fmt, with fmt's text TOLD by the authors' own Lean function (tested against real Go, not proved from fmt's source: count such statements apart). THE CARD IS WHAT COUNTS. Prove the row's statement (the work); the ties are given (YtfjbafdgjpdbdabDoorTie.lean); close each card by the builder's one call (the guide's Derived/Test/ToyasCard.lean, 'card_holds'). Laid BY PROGRAM, IN A SANDBOX (cutbox-door.mjs). By AI agents, Wed Nov 11 2026. No macro, syntax, notation, axiom, sorry.
-/
import Derived.Test.YtfjbafdgjpdbdabDoorRows
import GoSem.ClaimSeven
namespace Go.Proofs.YtfjbafdgjpdbdabDoor
namespace Rows

/-- THE TIED CARD OF 'scanfaillaw2.NumbersExponents'. -/
def numbersExponentsCard : Claim7 := { stood := { row := numbersExponentsRow, standIns := [], harness := (true, "60f54a540da99bb8f64d05a130129e89a6a37cbe07118d181886c374c7f1fcd4"), looks := false }, kinds := [], alts := [], laidByText := true, laidKinds := [.data, .data, .data], laidTests := true, laidLooks := .later }
def NumbersExponentsCardSaid : Prop := Claim7.holds Tryd.pinned (.plain (OpenSpec.ofChange numbersExponentsSpec)) numbersExponentsCard

/-- THE TIED CARD OF 'scanfaillaw2.NumbersDivide'. -/
def numbersDivideCard : Claim7 := { stood := { row := numbersDivideRow, standIns := [], harness := (true, "60f54a540da99bb8f64d05a130129e89a6a37cbe07118d181886c374c7f1fcd4"), looks := false }, kinds := [], alts := [], laidByText := true, laidKinds := [.data, .data, .data], laidTests := true, laidLooks := .later }
def NumbersDivideCardSaid : Prop := Claim7.holds Tryd.pinned (.plain (OpenSpec.ofChange numbersDivideSpec)) numbersDivideCard

/-- THE SECOND FORM's CARD OF 'scanfaillaw2.NumbersExponents'. -/
def numbersExponentsUptoCard : Claim7 := { stood := { row := numbersExponentsUptoRow, standIns := [], harness := (true, "60f54a540da99bb8f64d05a130129e89a6a37cbe07118d181886c374c7f1fcd4"), looks := false }, kinds := [], alts := [], laidByText := true, laidKinds := [.data, .data, .data], laidTests := true, laidLooks := .later }
def NumbersExponentsUptoCardSaid : Prop := Claim7.holds Tryd.pinned (.plain (OpenSpec.upto numbersExponentsSpec)) numbersExponentsUptoCard

/-- THE SECOND FORM's CARD OF 'scanfaillaw2.NumbersDivide'. -/
def numbersDivideUptoCard : Claim7 := { stood := { row := numbersDivideUptoRow, standIns := [], harness := (true, "60f54a540da99bb8f64d05a130129e89a6a37cbe07118d181886c374c7f1fcd4"), looks := false }, kinds := [], alts := [], laidByText := true, laidKinds := [.data, .data, .data], laidTests := true, laidLooks := .later }
def NumbersDivideUptoCardSaid : Prop := Claim7.holds Tryd.pinned (.plain (OpenSpec.upto numbersDivideSpec)) numbersDivideUptoCard
end Rows
end Go.Proofs.YtfjbafdgjpdbdabDoor
