/-
  DERIVED. GIVEN WITH THE SEED: THE CARDS: each row of YtpclpjcemeckgaaDoorRows.lean that lists a variable, with what it lists TIED to the program's text (the seventh form; the later family's looks); each row that meets fmt, with fmt's text TOLD by the authors' own Lean function (tested against real Go, not proved from fmt's source: count such statements apart). THE CARD IS WHAT COUNTS. Prove the row's statement (the work); the ties are given (YtpclpjcemeckgaaDoorTie.lean); close each card by the builder's one call (the guide's Derived/Test/ToyasCard.lean, 'card_holds'). Laid BY PROGRAM, IN A SANDBOX (cutbox-door.mjs). By AI agents, Wed Nov 11 2026. No macro, syntax, notation, axiom, sorry.
-/
import Derived.Test.YtpclpjcemeckgaaDoorRows
import GoSem.ClaimSeven
namespace Go.Proofs.YtpclpjcemeckgaaDoor
namespace Rows

/-- THE TIED CARD OF 'scanfaillaw13.CodeJumps'. -/
def codeJumpsCard : Claim7 := { stood := { row := codeJumpsRow, standIns := [], harness := (true, "ec0e95f5977c69a5302464b7fdd108fc63aae2d9d81f6296a394f583d09a3500"), looks := false }, kinds := [], alts := [], laidByText := true, laidKinds := [.data, .data, .data, .data, .data], laidTests := true, laidLooks := .later }
def CodeJumpsCardSaid : Prop := Claim7.holds Tryd.pinned (.plain (OpenSpec.ofChange codeJumpsSpec)) codeJumpsCard

/-- THE TIED CARD OF 'scanfaillaw13.CodeDepth'. -/
def codeDepthCard : Claim7 := { stood := { row := codeDepthRow, standIns := [], harness := (true, "ec0e95f5977c69a5302464b7fdd108fc63aae2d9d81f6296a394f583d09a3500"), looks := false }, kinds := [], alts := [], laidByText := true, laidKinds := [.data, .data, .data, .data, .data], laidTests := true, laidLooks := .later }
def CodeDepthCardSaid : Prop := Claim7.holds Tryd.pinned (.plain (OpenSpec.ofChange codeDepthSpec)) codeDepthCard

/-- THE SECOND FORM's CARD OF 'scanfaillaw13.CodeJumps'. -/
def codeJumpsUptoCard : Claim7 := { stood := { row := codeJumpsUptoRow, standIns := [], harness := (true, "ec0e95f5977c69a5302464b7fdd108fc63aae2d9d81f6296a394f583d09a3500"), looks := false }, kinds := [], alts := [], laidByText := true, laidKinds := [.data, .data, .data, .data, .data], laidTests := true, laidLooks := .later }
def CodeJumpsUptoCardSaid : Prop := Claim7.holds Tryd.pinned (.plain (OpenSpec.upto codeJumpsSpec)) codeJumpsUptoCard

/-- THE SECOND FORM's CARD OF 'scanfaillaw13.CodeDepth'. -/
def codeDepthUptoCard : Claim7 := { stood := { row := codeDepthUptoRow, standIns := [], harness := (true, "ec0e95f5977c69a5302464b7fdd108fc63aae2d9d81f6296a394f583d09a3500"), looks := false }, kinds := [], alts := [], laidByText := true, laidKinds := [.data, .data, .data, .data, .data], laidTests := true, laidLooks := .later }
def CodeDepthUptoCardSaid : Prop := Claim7.holds Tryd.pinned (.plain (OpenSpec.upto codeDepthSpec)) codeDepthUptoCard
end Rows
end Go.Proofs.YtpclpjcemeckgaaDoor
