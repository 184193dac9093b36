/-
  DERIVED. GIVEN WITH THE SEED: THE CARDS: each row of YtkphpcgmfkhpnaaDoorRows.lean that lists a variable, with what it lists TIED to the program's text (the seventh form; the later family's looks); each row that meets fmt, with fmt's text TOLD by the authors' own Lean function (tested against real Go, not proved from fmt's source: count such statements apart). THE CARD IS WHAT COUNTS. Prove the row's statement (the work); the ties are given (YtkphpcgmfkhpnaaDoorTie.lean); close each card by the builder's one call (the guide's Derived/Test/ToyasCard.lean, 'card_holds'). Laid BY PROGRAM, IN A SANDBOX (cutbox-door.mjs). By AI agents, Wed Nov 11 2026. No macro, syntax, notation, axiom, sorry.
-/
import Derived.Test.YtkphpcgmfkhpnaaDoorRows
import GoSem.ClaimSeven
namespace Go.Proofs.YtkphpcgmfkhpnaaDoor
namespace Rows

/-- THE TIED CARD OF 'scanfaillaw5.ScanLens'. -/
def scanLensCard : Claim7 := { stood := { row := scanLensRow, standIns := [], harness := (true, "d0b6824a7067ef1d91b92663ed61a3ffd60584014babdedb32456a8db273f39d"), looks := false }, kinds := [], alts := [], laidByText := true, laidKinds := [.data, .data, .data, .data], laidTests := true, laidLooks := .later }
def ScanLensCardSaid : Prop := Claim7.holds Tryd.pinned (.plain (OpenSpec.ofChange scanLensSpec)) scanLensCard

/-- THE TIED CARD OF 'scanfaillaw5.ScanSpans'. -/
def scanSpansCard : Claim7 := { stood := { row := scanSpansRow, standIns := [], harness := (true, "d0b6824a7067ef1d91b92663ed61a3ffd60584014babdedb32456a8db273f39d"), looks := false }, kinds := [], alts := [], laidByText := true, laidKinds := [.data, .data, .data, .data], laidTests := true, laidLooks := .later }
def ScanSpansCardSaid : Prop := Claim7.holds Tryd.pinned (.plain (OpenSpec.ofChange scanSpansSpec)) scanSpansCard

/-- THE SECOND FORM's CARD OF 'scanfaillaw5.ScanLens'. -/
def scanLensUptoCard : Claim7 := { stood := { row := scanLensUptoRow, standIns := [], harness := (true, "d0b6824a7067ef1d91b92663ed61a3ffd60584014babdedb32456a8db273f39d"), looks := false }, kinds := [], alts := [], laidByText := true, laidKinds := [.data, .data, .data, .data], laidTests := true, laidLooks := .later }
def ScanLensUptoCardSaid : Prop := Claim7.holds Tryd.pinned (.plain (OpenSpec.upto scanLensSpec)) scanLensUptoCard

/-- THE SECOND FORM's CARD OF 'scanfaillaw5.ScanSpans'. -/
def scanSpansUptoCard : Claim7 := { stood := { row := scanSpansUptoRow, standIns := [], harness := (true, "d0b6824a7067ef1d91b92663ed61a3ffd60584014babdedb32456a8db273f39d"), looks := false }, kinds := [], alts := [], laidByText := true, laidKinds := [.data, .data, .data, .data], laidTests := true, laidLooks := .later }
def ScanSpansUptoCardSaid : Prop := Claim7.holds Tryd.pinned (.plain (OpenSpec.upto scanSpansSpec)) scanSpansUptoCard
end Rows
end Go.Proofs.YtkphpcgmfkhpnaaDoor
