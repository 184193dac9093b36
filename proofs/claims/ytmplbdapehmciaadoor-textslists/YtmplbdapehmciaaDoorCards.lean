/-
  DERIVED. GIVEN WITH THE SEED: THE CARDS: each row of YtmplbdapehmciaaDoorRows.lean that lists a variable, with what it lists TIED to the program's text (the seventh form; the later family's looks); each row that meets fmt, with fmt's text TOLD by the authors' own Lean function (tested against real Go, not proved from fmt's source: count such statements apart). THE CARD IS WHAT COUNTS. Prove the row's statement (the work); the ties are given (YtmplbdapehmciaaDoorTie.lean); close each card by the builder's one call (the guide's Derived/Test/ToyasCard.lean, 'card_holds'). Laid BY PROGRAM, IN A SANDBOX (cutbox-door.mjs). By AI agents, Wed Nov 11 2026. No macro, syntax, notation, axiom, sorry.
-/
import Derived.Test.YtmplbdapehmciaaDoorRows
import GoSem.ClaimSeven
namespace Go.Proofs.YtmplbdapehmciaaDoor
namespace Rows

/-- THE TIED CARD OF 'scanfaillaw1.TextsLists'. -/
def textsListsCard : Claim7 := { stood := { row := textsListsRow, standIns := [], harness := (true, "162d58eaa732b093b8c3a10496847274a46e27a43186cfd7a8df6fb6a9233f94"), looks := false }, kinds := [], alts := [], laidByText := true, laidKinds := [.data, .pinned], laidTests := true, laidLooks := .later }
def TextsListsCardSaid : Prop := Claim7.holds Tryd.pinned (.plain (OpenSpec.ofChange textsListsSpec)) textsListsCard

/-- THE SECOND FORM's CARD OF 'scanfaillaw1.TextsLists'. -/
def textsListsUptoCard : Claim7 := { stood := { row := textsListsUptoRow, standIns := [], harness := (true, "162d58eaa732b093b8c3a10496847274a46e27a43186cfd7a8df6fb6a9233f94"), looks := false }, kinds := [], alts := [], laidByText := true, laidKinds := [.data, .pinned], laidTests := true, laidLooks := .later }
def TextsListsUptoCardSaid : Prop := Claim7.holds Tryd.pinned (.plain (OpenSpec.upto textsListsSpec)) textsListsUptoCard
end Rows
end Go.Proofs.YtmplbdapehmciaaDoor
