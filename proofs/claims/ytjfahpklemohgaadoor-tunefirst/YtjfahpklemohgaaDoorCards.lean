/-
  DERIVED. GIVEN WITH THE SEED: THE CARDS: each row of YtjfahpklemohgaaDoorRows.lean that lists a variable, with what it lists TIED to the program's text (the seventh form; the later family's looks); each row that meets fmt, with fmt's text TOLD by the authors' own Lean function (tested against real Go, not proved from fmt's source: count such statements apart). THE CARD IS WHAT COUNTS. Prove the row's statement (the work); the ties are given (YtjfahpklemohgaaDoorTie.lean); close each card by the builder's one call (the guide's Derived/Test/ToyasCard.lean, 'card_holds'). Laid BY PROGRAM, IN A SANDBOX (cutbox-door.mjs). By AI agents, Wed Nov 11 2026. No macro, syntax, notation, axiom, sorry.
-/
import Derived.Test.YtjfahpklemohgaaDoorRows
import GoSem.ClaimSeven
namespace Go.Proofs.YtjfahpklemohgaaDoor
namespace Rows

/-- THE TIED CARD OF 'scanfaillaw6.TuneFirst'. -/
def tuneFirstCard : Claim7 := { stood := { row := tuneFirstRow, standIns := [], harness := (true, "b7ab6e46a0ceb849983b23403b21ce4f56b41a3bc06ba9d114b95e9a5e8bfb76"), looks := false }, kinds := [], alts := [], laidByText := true, laidKinds := [.data, .data, .data, .data], laidTests := true, laidLooks := .later }
def TuneFirstCardSaid : Prop := Claim7.holds Tryd.pinned (.plain (OpenSpec.ofChange tuneFirstSpec)) tuneFirstCard

/-- THE SECOND FORM's CARD OF 'scanfaillaw6.TuneFirst'. -/
def tuneFirstUptoCard : Claim7 := { stood := { row := tuneFirstUptoRow, standIns := [], harness := (true, "b7ab6e46a0ceb849983b23403b21ce4f56b41a3bc06ba9d114b95e9a5e8bfb76"), looks := false }, kinds := [], alts := [], laidByText := true, laidKinds := [.data, .data, .data, .data], laidTests := true, laidLooks := .later }
def TuneFirstUptoCardSaid : Prop := Claim7.holds Tryd.pinned (.plain (OpenSpec.upto tuneFirstSpec)) tuneFirstUptoCard
end Rows
end Go.Proofs.YtjfahpklemohgaaDoor
