/-
  DERIVED. GIVEN WITH THE SEED: THE CARDS: each row of YtfjbafdgjpdbdaaDoorRows.lean that lists a variable, with what it lists TIED to the program's text (the seventh form; the later family's looks); each row that meets fmt, with fmt's text TOLD by the authors' own Lean function (tested against real Go, not proved from fmt's source: count such statements apart). THE CARD IS WHAT COUNTS. Prove the row's statement (the work); the ties are given (YtfjbafdgjpdbdaaDoorTie.lean); close each card by the builder's one call (the guide's Derived/Test/ToyasCard.lean, 'card_holds'). Laid BY PROGRAM, IN A SANDBOX (cutbox-door.mjs). By AI agents, Wed Nov 11 2026. No macro, syntax, notation, axiom, sorry.
-/
import Derived.Test.YtfjbafdgjpdbdaaDoorRows
import GoSem.ClaimSeven
namespace Go.Proofs.YtfjbafdgjpdbdaaDoor
namespace Rows

/-- THE TIED CARD OF 'scanfaillaw2.NumbersRead'. -/
def numbersReadCard : Claim7 := { stood := { row := numbersReadRow, standIns := [], harness := (true, "c771b9132aaf9b662c00811fbdbad646149afd9943e0f55aa03ca7945860421b"), looks := false }, kinds := [], alts := [], laidByText := true, laidKinds := [.data, .data, .data, .data, .pinned], laidTests := true, laidLooks := .later }
def NumbersReadCardSaid : Prop := Claim7.holds Tryd.pinned (.plain (OpenSpec.ofChange numbersReadSpec)) numbersReadCard

/-- THE TIED CARD OF 'scanfaillaw2.NumbersTurn'. -/
def numbersTurnCard : Claim7 := { stood := { row := numbersTurnRow, standIns := [], harness := (true, "c771b9132aaf9b662c00811fbdbad646149afd9943e0f55aa03ca7945860421b"), looks := false }, kinds := [], alts := [], laidByText := true, laidKinds := [.data, .data, .data, .data, .pinned], laidTests := true, laidLooks := .later }
def NumbersTurnCardSaid : Prop := Claim7.holds Tryd.pinned (.plain (OpenSpec.ofChange numbersTurnSpec)) numbersTurnCard

/-- THE TIED CARD OF 'scanfaillaw2.NumbersRing'. -/
def numbersRingCard : Claim7 := { stood := { row := numbersRingRow, standIns := [], harness := (true, "c771b9132aaf9b662c00811fbdbad646149afd9943e0f55aa03ca7945860421b"), looks := false }, kinds := [], alts := [], laidByText := true, laidKinds := [.data, .data, .data], laidTests := true, laidLooks := .later }
def NumbersRingCardSaid : Prop := Claim7.holds Tryd.pinned (.plain (OpenSpec.ofChange numbersRingSpec)) numbersRingCard

/-- THE TIED CARD OF 'scanfaillaw2.NumbersParts'. -/
def numbersPartsCard : Claim7 := { stood := { row := numbersPartsRow, standIns := [], harness := (true, "c771b9132aaf9b662c00811fbdbad646149afd9943e0f55aa03ca7945860421b"), looks := false }, kinds := [], alts := [], laidByText := true, laidKinds := [.data, .data, .data], laidTests := true, laidLooks := .later }
def NumbersPartsCardSaid : Prop := Claim7.holds Tryd.pinned (.plain (OpenSpec.ofChange numbersPartsSpec)) numbersPartsCard

/-- THE SECOND FORM's CARD OF 'scanfaillaw2.NumbersRead'. -/
def numbersReadUptoCard : Claim7 := { stood := { row := numbersReadUptoRow, standIns := [], harness := (true, "c771b9132aaf9b662c00811fbdbad646149afd9943e0f55aa03ca7945860421b"), looks := false }, kinds := [], alts := [], laidByText := true, laidKinds := [.data, .data, .data, .data, .pinned], laidTests := true, laidLooks := .later }
def NumbersReadUptoCardSaid : Prop := Claim7.holds Tryd.pinned (.plain (OpenSpec.upto numbersReadSpec)) numbersReadUptoCard

/-- THE SECOND FORM's CARD OF 'scanfaillaw2.NumbersTurn'. -/
def numbersTurnUptoCard : Claim7 := { stood := { row := numbersTurnUptoRow, standIns := [], harness := (true, "c771b9132aaf9b662c00811fbdbad646149afd9943e0f55aa03ca7945860421b"), looks := false }, kinds := [], alts := [], laidByText := true, laidKinds := [.data, .data, .data, .data, .pinned], laidTests := true, laidLooks := .later }
def NumbersTurnUptoCardSaid : Prop := Claim7.holds Tryd.pinned (.plain (OpenSpec.upto numbersTurnSpec)) numbersTurnUptoCard

/-- THE SECOND FORM's CARD OF 'scanfaillaw2.NumbersRing'. -/
def numbersRingUptoCard : Claim7 := { stood := { row := numbersRingUptoRow, standIns := [], harness := (true, "c771b9132aaf9b662c00811fbdbad646149afd9943e0f55aa03ca7945860421b"), looks := false }, kinds := [], alts := [], laidByText := true, laidKinds := [.data, .data, .data], laidTests := true, laidLooks := .later }
def NumbersRingUptoCardSaid : Prop := Claim7.holds Tryd.pinned (.plain (OpenSpec.upto numbersRingSpec)) numbersRingUptoCard

/-- THE SECOND FORM's CARD OF 'scanfaillaw2.NumbersParts'. -/
def numbersPartsUptoCard : Claim7 := { stood := { row := numbersPartsUptoRow, standIns := [], harness := (true, "c771b9132aaf9b662c00811fbdbad646149afd9943e0f55aa03ca7945860421b"), looks := false }, kinds := [], alts := [], laidByText := true, laidKinds := [.data, .data, .data], laidTests := true, laidLooks := .later }
def NumbersPartsUptoCardSaid : Prop := Claim7.holds Tryd.pinned (.plain (OpenSpec.upto numbersPartsSpec)) numbersPartsUptoCard
end Rows
end Go.Proofs.YtfjbafdgjpdbdaaDoor
