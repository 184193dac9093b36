/-
  DERIVED. GIVEN WITH THE SEED: THE CARDS: each row of YtimbfelbalfmiaaDoorRows.lean that lists a variable, with what it lists TIED to the program's text (the seventh form; the later family's looks); each row that meets fmt, with fmt's text TOLD by the authors' own Lean function (tested against real Go, not proved from fmt's source: count such statements apart). THE CARD IS WHAT COUNTS. Prove the row's statement (the work); the ties are given (YtimbfelbalfmiaaDoorTie.lean); close each card by the builder's one call (the guide's Derived/Test/ToyasCard.lean, 'card_holds'). Laid BY PROGRAM, IN A SANDBOX (cutbox-door.mjs). By AI agents, Wed Nov 11 2026. No macro, syntax, notation, axiom, sorry.
-/
import Derived.Test.YtimbfelbalfmiaaDoorRows
import GoSem.ClaimSeven
namespace Go.Proofs.YtimbfelbalfmiaaDoor
namespace Rows

/-- THE TIED CARD OF 'scanfaillaw4.PatsRead'. -/
def patsReadCard : Claim7 := { stood := { row := patsReadRow, standIns := [], harness := (true, "b8bbda58ef91fddd85d8c8ef5c2ef79e700affa41a7d2708f57cf2326782729a"), looks := true }, kinds := [], alts := [], laidByText := true, laidKinds := [.data], laidTests := true, laidLooks := .later }
def PatsReadCardSaid : Prop := Claim7.holds Tryd.pinned (.plain (OpenSpec.ofChange patsReadSpec)) patsReadCard

/-- THE SECOND FORM's CARD OF 'scanfaillaw4.PatsRead'. -/
def patsReadUptoCard : Claim7 := { stood := { row := patsReadUptoRow, standIns := [], harness := (true, "b8bbda58ef91fddd85d8c8ef5c2ef79e700affa41a7d2708f57cf2326782729a"), looks := true }, kinds := [], alts := [], laidByText := true, laidKinds := [.data], laidTests := true, laidLooks := .later }
def PatsReadUptoCardSaid : Prop := Claim7.holds Tryd.pinned (.plain (OpenSpec.upto patsReadSpec)) patsReadUptoCard
end Rows
end Go.Proofs.YtimbfelbalfmiaaDoor
