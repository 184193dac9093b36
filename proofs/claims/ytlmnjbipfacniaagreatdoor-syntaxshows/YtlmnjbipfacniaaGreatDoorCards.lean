/-
  DERIVED. GIVEN WITH THE SEED: THE CARDS: each row of YtlmnjbipfacniaaGreatDoorRows.lean that lists a variable, with what it lists TIED to the program's text (the seventh form; the later family's looks); each row that meets fmt, with fmt's text TOLD by the authors' own Lean function (tested against real Go, not proved from fmt's source: count such statements apart). THE CARD IS WHAT COUNTS. Prove the row's statement (the work); the ties are given (YtlmnjbipfacniaaGreatDoorTie.lean); close each card by the builder's one call (the guide's Derived/Test/ToyasCard.lean, 'card_holds'). Laid BY PROGRAM, IN A SANDBOX (cutbox-door.mjs). By AI agents, Wed Nov 11 2026. No macro, syntax, notation, axiom, sorry.
-/
import Derived.Test.YtlmnjbipfacniaaGreatDoorRows
import GoSem.ClaimSeven
namespace Go.Proofs.YtlmnjbipfacniaaGreatDoor
namespace Rows

/-- THE TIED CARD OF 'scanfaillaw10.SyntaxTurns'. -/
def syntaxTurnsCard : Claim7 := { stood := { row := syntaxTurnsRow, standIns := [], harness := (true, "9e8eb6637658b3d1c16b4bafeb5367e13126337df79141ce393a3c24f53f8aa7"), looks := true }, kinds := [], alts := [], laidByText := true, laidKinds := [.data, .data, .data, .data, .sentinel, .sentinel, .data, .data, .pinned], laidTests := true, laidLooks := .later }
def SyntaxTurnsCardSaid : Prop := Claim7.holds Tryz.pinned (.plain (OpenSpec.ofChange syntaxTurnsSpec)) syntaxTurnsCard

/-- THE TIED CARD OF 'scanfaillaw10.SyntaxShows'. -/
def syntaxShowsCard : Claim7 := { stood := { row := syntaxShowsRow, standIns := [], harness := (true, "9e8eb6637658b3d1c16b4bafeb5367e13126337df79141ce393a3c24f53f8aa7"), looks := true }, kinds := [], alts := [], laidByText := true, laidKinds := [.data, .data, .data, .data, .sentinel, .sentinel, .data, .data, .pinned], laidTests := true, laidLooks := .later }
def SyntaxShowsCardSaid : Prop := Claim7.holds Tryz.pinned (.plain (OpenSpec.ofChange syntaxShowsSpec)) syntaxShowsCard

/-- THE TIED CARD OF 'scanfaillaw11.CheckWritten'. -/
def checkWrittenCard : Claim7 := { stood := { row := checkWrittenRow, standIns := [], harness := (true, "9e8eb6637658b3d1c16b4bafeb5367e13126337df79141ce393a3c24f53f8aa7"), looks := true }, kinds := [], alts := [], laidByText := true, laidKinds := [.data, .data, .data, .data, .sentinel, .sentinel, .data, .data, .pinned], laidTests := true, laidLooks := .later }
def CheckWrittenCardSaid : Prop := Claim7.holds Tryz.pinned (.plain (OpenSpec.ofChange checkWrittenSpec)) checkWrittenCard

/-- THE SECOND FORM's CARD OF 'scanfaillaw10.SyntaxTurns'. -/
def syntaxTurnsUptoCard : Claim7 := { stood := { row := syntaxTurnsUptoRow, standIns := [], harness := (true, "9e8eb6637658b3d1c16b4bafeb5367e13126337df79141ce393a3c24f53f8aa7"), looks := true }, kinds := [], alts := [], laidByText := true, laidKinds := [.data, .data, .data, .data, .sentinel, .sentinel, .data, .data, .pinned], laidTests := true, laidLooks := .later }
def SyntaxTurnsUptoCardSaid : Prop := Claim7.holds Tryz.pinned (.plain (OpenSpec.upto syntaxTurnsSpec)) syntaxTurnsUptoCard

/-- THE SECOND FORM's CARD OF 'scanfaillaw10.SyntaxShows'. -/
def syntaxShowsUptoCard : Claim7 := { stood := { row := syntaxShowsUptoRow, standIns := [], harness := (true, "9e8eb6637658b3d1c16b4bafeb5367e13126337df79141ce393a3c24f53f8aa7"), looks := true }, kinds := [], alts := [], laidByText := true, laidKinds := [.data, .data, .data, .data, .sentinel, .sentinel, .data, .data, .pinned], laidTests := true, laidLooks := .later }
def SyntaxShowsUptoCardSaid : Prop := Claim7.holds Tryz.pinned (.plain (OpenSpec.upto syntaxShowsSpec)) syntaxShowsUptoCard

/-- THE SECOND FORM's CARD OF 'scanfaillaw11.CheckWritten'. -/
def checkWrittenUptoCard : Claim7 := { stood := { row := checkWrittenUptoRow, standIns := [], harness := (true, "9e8eb6637658b3d1c16b4bafeb5367e13126337df79141ce393a3c24f53f8aa7"), looks := true }, kinds := [], alts := [], laidByText := true, laidKinds := [.data, .data, .data, .data, .sentinel, .sentinel, .data, .data, .pinned], laidTests := true, laidLooks := .later }
def CheckWrittenUptoCardSaid : Prop := Claim7.holds Tryz.pinned (.plain (OpenSpec.upto checkWrittenSpec)) checkWrittenUptoCard
end Rows
end Go.Proofs.YtlmnjbipfacniaaGreatDoor
