/-
  DERIVED. GIVEN WITH THE SEED: THE CARDS: each row of YtohponcbpnkkpaaDoorRows.lean that lists a variable, with what it lists TIED to the program's text (the seventh form; the later family's looks); each row that meets fmt, with fmt's text TOLD by the authors' own Lean function (tested against real Go, not proved from fmt's source: count such statements apart). THE CARD IS WHAT COUNTS. Prove the row's statement (the work); the ties are given (YtohponcbpnkkpaaDoorTie.lean); close each card by the builder's one call (the guide's Derived/Test/ToyasCard.lean, 'card_holds'). Laid BY PROGRAM, IN A SANDBOX (cutbox-door.mjs). By AI agents, Wed Nov 11 2026. No macro, syntax, notation, axiom, sorry.
-/
import Derived.Test.YtohponcbpnkkpaaDoorRows
import GoSem.ClaimSeven
namespace Go.Proofs.YtohponcbpnkkpaaDoor
namespace Rows

/-- THE TIED CARD OF 'scanfaillaw11.CheckTells'. -/
def checkTellsCard : Claim7 := { stood := { row := checkTellsRow, standIns := [], harness := (true, "b8ea9a1b066fd2c53100677564d8ea903d5c91504686ca5dfc7f4bf2f0956d52"), looks := false }, kinds := [], alts := [], laidByText := true, laidKinds := [.data, .data], laidTests := true, laidLooks := .later }
def CheckTellsCardSaid : Prop := Claim7.holds Tryd.pinned (.plain (OpenSpec.ofChange checkTellsSpec)) checkTellsCard

/-- THE TIED CARD OF 'scanfaillaw11.CheckReached'. -/
def checkReachedCard : Claim7 := { stood := { row := checkReachedRow, standIns := [], harness := (true, "b8ea9a1b066fd2c53100677564d8ea903d5c91504686ca5dfc7f4bf2f0956d52"), looks := false }, kinds := [], alts := [], laidByText := true, laidKinds := [.data, .data], laidTests := true, laidLooks := .later }
def CheckReachedCardSaid : Prop := Claim7.holds Tryd.pinned (.plain (OpenSpec.ofChange checkReachedSpec)) checkReachedCard

/-- THE SECOND FORM's CARD OF 'scanfaillaw11.CheckTells'. -/
def checkTellsUptoCard : Claim7 := { stood := { row := checkTellsUptoRow, standIns := [], harness := (true, "b8ea9a1b066fd2c53100677564d8ea903d5c91504686ca5dfc7f4bf2f0956d52"), looks := false }, kinds := [], alts := [], laidByText := true, laidKinds := [.data, .data], laidTests := true, laidLooks := .later }
def CheckTellsUptoCardSaid : Prop := Claim7.holds Tryd.pinned (.plain (OpenSpec.upto checkTellsSpec)) checkTellsUptoCard

/-- THE SECOND FORM's CARD OF 'scanfaillaw11.CheckReached'. -/
def checkReachedUptoCard : Claim7 := { stood := { row := checkReachedUptoRow, standIns := [], harness := (true, "b8ea9a1b066fd2c53100677564d8ea903d5c91504686ca5dfc7f4bf2f0956d52"), looks := false }, kinds := [], alts := [], laidByText := true, laidKinds := [.data, .data], laidTests := true, laidLooks := .later }
def CheckReachedUptoCardSaid : Prop := Claim7.holds Tryd.pinned (.plain (OpenSpec.upto checkReachedSpec)) checkReachedUptoCard
end Rows
end Go.Proofs.YtohponcbpnkkpaaDoor
