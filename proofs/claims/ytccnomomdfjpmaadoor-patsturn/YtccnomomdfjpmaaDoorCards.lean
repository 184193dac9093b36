/-
  DERIVED. GIVEN WITH THE SEED: THE CARDS: each row of YtccnomomdfjpmaaDoorRows.lean that lists a variable, with what it lists TIED to the program's text (the seventh form; the later family's looks); each row that meets fmt, with fmt's text TOLD by the authors' own Lean function (tested against real Go, not proved from fmt's source: count such statements apart). THE CARD IS WHAT COUNTS. Prove the row's statement (the work); the ties are given (YtccnomomdfjpmaaDoorTie.lean); close each card by the builder's one call (the guide's Derived/Test/ToyasCard.lean, 'card_holds'). Laid BY PROGRAM, IN A SANDBOX (cutbox-door.mjs). By AI agents, Wed Nov 11 2026. No macro, syntax, notation, axiom, sorry.
-/
import Derived.Test.YtccnomomdfjpmaaDoorRows
import GoSem.ClaimSeven
namespace Go.Proofs.YtccnomomdfjpmaaDoor
namespace Rows

/-- THE TIED CARD OF 'scanfaillaw4.PatsPrint'. -/
def patsPrintCard : Claim7 := { stood := { row := patsPrintRow, standIns := [], harness := (true, "6aeb542bf5f8d021d120e5c8d8e86e1c926617b386d844c740d453856d0bd5e1"), looks := true }, kinds := [], alts := [], laidByText := true, laidKinds := [.data, .data, .data, .data, .data, .pinned], laidTests := true, laidLooks := .later }
def PatsPrintCardSaid : Prop := Claim7.holds Tryd.pinned (.plain (OpenSpec.ofChange patsPrintSpec)) patsPrintCard

/-- THE TIED CARD OF 'scanfaillaw4.PatsRead'. -/
def patsReadCard : Claim7 := { stood := { row := patsReadRow, standIns := [], harness := (true, "6aeb542bf5f8d021d120e5c8d8e86e1c926617b386d844c740d453856d0bd5e1"), looks := true }, kinds := [], alts := [], laidByText := true, laidKinds := [.data], laidTests := true, laidLooks := .later }
def PatsReadCardSaid : Prop := Claim7.holds Tryd.pinned (.plain (OpenSpec.ofChange patsReadSpec)) patsReadCard

/-- THE TIED CARD OF 'scanfaillaw4.PatsTurn'. -/
def patsTurnCard : Claim7 := { stood := { row := patsTurnRow, standIns := [], harness := (true, "6aeb542bf5f8d021d120e5c8d8e86e1c926617b386d844c740d453856d0bd5e1"), looks := true }, kinds := [], alts := [], laidByText := true, laidKinds := [.data, .data, .data, .data, .data, .pinned], laidTests := true, laidLooks := .later }
def PatsTurnCardSaid : Prop := Claim7.holds Tryd.pinned (.plain (OpenSpec.ofChange patsTurnSpec)) patsTurnCard

/-- THE SECOND FORM's CARD OF 'scanfaillaw4.PatsPrint'. -/
def patsPrintUptoCard : Claim7 := { stood := { row := patsPrintUptoRow, standIns := [], harness := (true, "6aeb542bf5f8d021d120e5c8d8e86e1c926617b386d844c740d453856d0bd5e1"), looks := true }, kinds := [], alts := [], laidByText := true, laidKinds := [.data, .data, .data, .data, .data, .pinned], laidTests := true, laidLooks := .later }
def PatsPrintUptoCardSaid : Prop := Claim7.holds Tryd.pinned (.plain (OpenSpec.upto patsPrintSpec)) patsPrintUptoCard

/-- THE SECOND FORM's CARD OF 'scanfaillaw4.PatsRead'. -/
def patsReadUptoCard : Claim7 := { stood := { row := patsReadUptoRow, standIns := [], harness := (true, "6aeb542bf5f8d021d120e5c8d8e86e1c926617b386d844c740d453856d0bd5e1"), looks := true }, kinds := [], alts := [], laidByText := true, laidKinds := [.data], laidTests := true, laidLooks := .later }
def PatsReadUptoCardSaid : Prop := Claim7.holds Tryd.pinned (.plain (OpenSpec.upto patsReadSpec)) patsReadUptoCard

/-- THE SECOND FORM's CARD OF 'scanfaillaw4.PatsTurn'. -/
def patsTurnUptoCard : Claim7 := { stood := { row := patsTurnUptoRow, standIns := [], harness := (true, "6aeb542bf5f8d021d120e5c8d8e86e1c926617b386d844c740d453856d0bd5e1"), looks := true }, kinds := [], alts := [], laidByText := true, laidKinds := [.data, .data, .data, .data, .data, .pinned], laidTests := true, laidLooks := .later }
def PatsTurnUptoCardSaid : Prop := Claim7.holds Tryd.pinned (.plain (OpenSpec.upto patsTurnSpec)) patsTurnUptoCard
end Rows
end Go.Proofs.YtccnomomdfjpmaaDoor
