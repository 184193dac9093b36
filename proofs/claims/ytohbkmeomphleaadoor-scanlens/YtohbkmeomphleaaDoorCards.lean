/-
  DERIVED. GIVEN WITH THE SEED: THE CARDS: each row of YtohbkmeomphleaaDoorRows.lean that lists a variable, with what it lists TIED to the program's text (the seventh form; the later family's looks); each row that meets fmt, with fmt's text TOLD by the authors' own Lean function (tested against real Go, not proved from fmt's source: count such statements apart). THE CARD IS WHAT COUNTS. Prove the row's statement (the work); the ties are given (YtohbkmeomphleaaDoorTie.lean); close each card by the builder's one call (the guide's Derived/Test/ToyasCard.lean, 'card_holds'). Laid BY PROGRAM, IN A SANDBOX (cutbox-door.mjs). By AI agents, Wed Nov 11 2026. No macro, syntax, notation, axiom, sorry.
-/
import Derived.Test.YtohbkmeomphleaaDoorRows
import GoSem.ClaimSeven
namespace Go.Proofs.YtohbkmeomphleaaDoor
namespace Rows

/-- THE TIED CARD OF 'scanfaillaw5.ScanLens'. -/
def scanLensCard : Claim7 := { stood := { row := scanLensRow, standIns := [], harness := (true, "599fdd86c33847d64271d0b6f75148902f6475f434819ab1ab9a6d33312d5b93"), looks := false }, kinds := [], alts := [], laidByText := true, laidKinds := [.data, .data, .data, .data], laidTests := true, laidLooks := .later }
def ScanLensCardSaid : Prop := Claim7.holds Tryd.pinned (.plain (OpenSpec.ofChange scanLensSpec)) scanLensCard

/-- THE TIED CARD OF 'scanfaillaw5.ScanTabs'. -/
def scanTabsCard : Claim7 := { stood := { row := scanTabsRow, standIns := [], harness := (true, "599fdd86c33847d64271d0b6f75148902f6475f434819ab1ab9a6d33312d5b93"), looks := false }, kinds := [], alts := [], laidByText := true, laidKinds := [.data, .data, .data, .data], laidTests := true, laidLooks := .later }
def ScanTabsCardSaid : Prop := Claim7.holds Tryd.pinned (.plain (OpenSpec.ofChange scanTabsSpec)) scanTabsCard

/-- THE TIED CARD OF 'scanfaillaw5.ScanArb'. -/
def scanArbCard : Claim7 := { stood := { row := scanArbRow, standIns := [], harness := (true, "599fdd86c33847d64271d0b6f75148902f6475f434819ab1ab9a6d33312d5b93"), looks := false }, kinds := [], alts := [], laidByText := true, laidKinds := [.data, .data, .data, .data], laidTests := true, laidLooks := .later }
def ScanArbCardSaid : Prop := Claim7.holds Tryd.pinned (.plain (OpenSpec.ofChange scanArbSpec)) scanArbCard

/-- THE TIED CARD OF 'scanfaillaw5.ScanBal'. -/
def scanBalCard : Claim7 := { stood := { row := scanBalRow, standIns := [], harness := (true, "599fdd86c33847d64271d0b6f75148902f6475f434819ab1ab9a6d33312d5b93"), looks := false }, kinds := [], alts := [], laidByText := true, laidKinds := [.data, .data, .data, .data], laidTests := true, laidLooks := .later }
def ScanBalCardSaid : Prop := Claim7.holds Tryd.pinned (.plain (OpenSpec.ofChange scanBalSpec)) scanBalCard

/-- THE SECOND FORM's CARD OF 'scanfaillaw5.ScanLens'. -/
def scanLensUptoCard : Claim7 := { stood := { row := scanLensUptoRow, standIns := [], harness := (true, "599fdd86c33847d64271d0b6f75148902f6475f434819ab1ab9a6d33312d5b93"), looks := false }, kinds := [], alts := [], laidByText := true, laidKinds := [.data, .data, .data, .data], laidTests := true, laidLooks := .later }
def ScanLensUptoCardSaid : Prop := Claim7.holds Tryd.pinned (.plain (OpenSpec.upto scanLensSpec)) scanLensUptoCard

/-- THE SECOND FORM's CARD OF 'scanfaillaw5.ScanTabs'. -/
def scanTabsUptoCard : Claim7 := { stood := { row := scanTabsUptoRow, standIns := [], harness := (true, "599fdd86c33847d64271d0b6f75148902f6475f434819ab1ab9a6d33312d5b93"), looks := false }, kinds := [], alts := [], laidByText := true, laidKinds := [.data, .data, .data, .data], laidTests := true, laidLooks := .later }
def ScanTabsUptoCardSaid : Prop := Claim7.holds Tryd.pinned (.plain (OpenSpec.upto scanTabsSpec)) scanTabsUptoCard

/-- THE SECOND FORM's CARD OF 'scanfaillaw5.ScanArb'. -/
def scanArbUptoCard : Claim7 := { stood := { row := scanArbUptoRow, standIns := [], harness := (true, "599fdd86c33847d64271d0b6f75148902f6475f434819ab1ab9a6d33312d5b93"), looks := false }, kinds := [], alts := [], laidByText := true, laidKinds := [.data, .data, .data, .data], laidTests := true, laidLooks := .later }
def ScanArbUptoCardSaid : Prop := Claim7.holds Tryd.pinned (.plain (OpenSpec.upto scanArbSpec)) scanArbUptoCard

/-- THE SECOND FORM's CARD OF 'scanfaillaw5.ScanBal'. -/
def scanBalUptoCard : Claim7 := { stood := { row := scanBalUptoRow, standIns := [], harness := (true, "599fdd86c33847d64271d0b6f75148902f6475f434819ab1ab9a6d33312d5b93"), looks := false }, kinds := [], alts := [], laidByText := true, laidKinds := [.data, .data, .data, .data], laidTests := true, laidLooks := .later }
def ScanBalUptoCardSaid : Prop := Claim7.holds Tryd.pinned (.plain (OpenSpec.upto scanBalSpec)) scanBalUptoCard
end Rows
end Go.Proofs.YtohbkmeomphleaaDoor
