/-
  DERIVED. GIVEN WITH THE SEED: THE CARDS: each row of YtcphfhkefgaalaaDoorRows.lean that lists a variable, with what it lists TIED to the program's text (the seventh form; the later family's looks); each row that meets fmt, with fmt's text TOLD by the authors' own Lean function (tested against real Go, not proved from fmt's source: count such statements apart). THE CARD IS WHAT COUNTS. Prove the row's statement (the work); the ties are given (YtcphfhkefgaalaaDoorTie.lean); close each card by the builder's one call (the guide's Derived/Test/ToyasCard.lean, 'card_holds'). Laid BY PROGRAM, IN A SANDBOX (cutbox-door.mjs). By AI agents, Wed Nov 11 2026. No macro, syntax, notation, axiom, sorry.
-/
import Derived.Test.YtcphfhkefgaalaaDoorRows
import GoSem.ClaimSeven
namespace Go.Proofs.YtcphfhkefgaalaaDoor
namespace Rows

/-- THE TIED CARD OF 'scanfaillaw1.TextsTell'. -/
def textsTellCard : Claim7 := { stood := { row := textsTellRow, standIns := [], harness := (true, "78e8a09e382386ba54fd07ec4ce0744765f1391ed7ddab80f8c47cdfc1f8214c"), looks := false }, kinds := [], alts := [], laidByText := true, laidKinds := [.data, .pinned], laidTests := true, laidLooks := .later }
def TextsTellCardSaid : Prop := Claim7.holds Tryd.pinned (.plain (OpenSpec.ofChange textsTellSpec)) textsTellCard

/-- THE TIED CARD OF 'scanfaillaw1.TextsLists'. -/
def textsListsCard : Claim7 := { stood := { row := textsListsRow, standIns := [], harness := (true, "78e8a09e382386ba54fd07ec4ce0744765f1391ed7ddab80f8c47cdfc1f8214c"), looks := false }, kinds := [], alts := [], laidByText := true, laidKinds := [.data, .pinned], laidTests := true, laidLooks := .later }
def TextsListsCardSaid : Prop := Claim7.holds Tryd.pinned (.plain (OpenSpec.ofChange textsListsSpec)) textsListsCard

/-- THE SECOND FORM's CARD OF 'scanfaillaw1.TextsTell'. -/
def textsTellUptoCard : Claim7 := { stood := { row := textsTellUptoRow, standIns := [], harness := (true, "78e8a09e382386ba54fd07ec4ce0744765f1391ed7ddab80f8c47cdfc1f8214c"), looks := false }, kinds := [], alts := [], laidByText := true, laidKinds := [.data, .pinned], laidTests := true, laidLooks := .later }
def TextsTellUptoCardSaid : Prop := Claim7.holds Tryd.pinned (.plain (OpenSpec.upto textsTellSpec)) textsTellUptoCard

/-- THE SECOND FORM's CARD OF 'scanfaillaw1.TextsLists'. -/
def textsListsUptoCard : Claim7 := { stood := { row := textsListsUptoRow, standIns := [], harness := (true, "78e8a09e382386ba54fd07ec4ce0744765f1391ed7ddab80f8c47cdfc1f8214c"), looks := false }, kinds := [], alts := [], laidByText := true, laidKinds := [.data, .pinned], laidTests := true, laidLooks := .later }
def TextsListsUptoCardSaid : Prop := Claim7.holds Tryd.pinned (.plain (OpenSpec.upto textsListsSpec)) textsListsUptoCard
end Rows
end Go.Proofs.YtcphfhkefgaalaaDoor
