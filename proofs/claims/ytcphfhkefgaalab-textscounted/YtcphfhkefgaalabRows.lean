/-
  No cell of these rows narrows 'for every input' (looked for: loops, veiled, ifaces, maps, wideKeys, modest, calm, conditions, laid).
  DERIVED. THE GIVEN ROWS OF THIS SEAT. 5 by the template 'for every input the law returns true; each argument reads behind the call as it read before'; 0 by the template 'total and deterministic' (their statements: YtcphfhkefgaalabTotals.lean).
  GIVEN WITH THE SEED: the statements are not yours to turn. If you find one false, say at which input.
  Laid BY PROGRAM, IN A SANDBOX (cutbox-rows.mjs): the forced cells as the released guide's own fill.sh prints them over the translation dc703f30db40edc6… (all of the seat's roots in one cut). By AI agents, Wed Nov 11 2026. No macro, syntax, notation, axiom, sorry.
-/
import Derived.Test.YtcphfhkefgaalabChecked
import GoSem.Claim
import GoSem.ClaimJoined
import GoSem.ClaimMapViews
import Derived.JoinedTies
import Derived.KernelRfl
namespace Go.Proofs.Ytcphfhkefgaalab
/- THE CELL 'sum', in the pinned program and in every row, IS THE sha256 OF THE DUMP (.gsa) THAT YtcphfhkefgaalabProg.lean LOADS. Nothing in Lean hashes anything: it is a label: what it is worth is what the hold of that sum in a sandbox is worth. -/
noncomputable def Try.pinned : Pinned := { name := "ytcphfhkefgaalab", sum := "dc703f30db40edc60caf7de4c7d9e655c9a6fa8c8348119717674973f7a531fd", checked := Try.checked }
namespace Rows
def none {H : Type} : Left H := { results := [], args := [] }

/-- 'scanfaillaw1.TextsPadded': WHATEVER THE INPUT: true; the input reads as it did. -/
def textsPaddedSpec : ChangeSpec := { name := "textsPadded", fn := fun _ => fun
  | [d1, d2, d3] => { results := [.lit (.bool true)], args := [d1, d2, d3] }
  | _ => none }
def textsPaddedRow : OpenClaim := { program := "ytcphfhkefgaalab", sum := "dc703f30db40edc60caf7de4c7d9e655c9a6fa8c8348119717674973f7a531fd", func := "scanfail/scanfaillaw1.TextsPadded", spec := "textsPadded", inPlace := ["internal/abi.NoEscape", "internal/bytealg.MakeNoZero"], apart := false }
def TextsPaddedSaid : Prop := textsPaddedRow.holds Try.pinned (OpenSpec.ofChange textsPaddedSpec)

/-- ITS FALSE NEIGHBOUR: 'it returns false'. Refute it at one input. -/
def textsPaddedWrong : ChangeSpec := { name := "textsPadded", fn := fun _ => fun
  | [d1, d2, d3] => { results := [.lit (.bool false)], args := [d1, d2, d3] }
  | _ => none }
def TextsPaddedWrongFalsely : Prop := textsPaddedRow.holds Try.pinned (OpenSpec.ofChange textsPaddedWrong)

/-- 'scanfaillaw1.TextsOrdered': WHATEVER THE INPUT: true; the input reads as it did. -/
def textsOrderedSpec : ChangeSpec := { name := "textsOrdered", fn := fun _ => fun
  | [d1, d2, d3] => { results := [.lit (.bool true)], args := [d1, d2, d3] }
  | _ => none }
def textsOrderedRow : OpenClaim := { program := "ytcphfhkefgaalab", sum := "dc703f30db40edc60caf7de4c7d9e655c9a6fa8c8348119717674973f7a531fd", func := "scanfail/scanfaillaw1.TextsOrdered", spec := "textsOrdered", inPlace := ["internal/bytealg.abigen_runtime_cmpstring"], apart := false }
def TextsOrderedSaid : Prop := textsOrderedRow.holds Try.pinned (OpenSpec.ofChange textsOrderedSpec)

/-- ITS FALSE NEIGHBOUR: 'it returns false'. Refute it at one input. -/
def textsOrderedWrong : ChangeSpec := { name := "textsOrdered", fn := fun _ => fun
  | [d1, d2, d3] => { results := [.lit (.bool false)], args := [d1, d2, d3] }
  | _ => none }
def TextsOrderedWrongFalsely : Prop := textsOrderedRow.holds Try.pinned (OpenSpec.ofChange textsOrderedWrong)

/-- 'scanfaillaw1.TextsDoubled': WHATEVER THE INPUT: true; the input reads as it did. -/
def textsDoubledSpec : ChangeSpec := { name := "textsDoubled", fn := fun _ => fun
  | [d1, d2, d3] => { results := [.lit (.bool true)], args := [d1, d2, d3] }
  | _ => none }
def textsDoubledRow : OpenClaim := { program := "ytcphfhkefgaalab", sum := "dc703f30db40edc60caf7de4c7d9e655c9a6fa8c8348119717674973f7a531fd", func := "scanfail/scanfaillaw1.TextsDoubled", spec := "textsDoubled", inPlace := ["internal/abi.NoEscape", "internal/bytealg.MakeNoZero"], apart := false }
def TextsDoubledSaid : Prop := textsDoubledRow.holds Try.pinned (OpenSpec.ofChange textsDoubledSpec)

/-- ITS FALSE NEIGHBOUR: 'it returns false'. Refute it at one input. -/
def textsDoubledWrong : ChangeSpec := { name := "textsDoubled", fn := fun _ => fun
  | [d1, d2, d3] => { results := [.lit (.bool false)], args := [d1, d2, d3] }
  | _ => none }
def TextsDoubledWrongFalsely : Prop := textsDoubledRow.holds Try.pinned (OpenSpec.ofChange textsDoubledWrong)

/-- 'scanfaillaw1.TextsRound': WHATEVER THE INPUT: true; the input reads as it did. -/
def textsRoundSpec : ChangeSpec := { name := "textsRound", fn := fun _ => fun
  | [d1, d2, d3] => { results := [.lit (.bool true)], args := [d1, d2, d3] }
  | _ => none }
def textsRoundRow : OpenClaim := { program := "ytcphfhkefgaalab", sum := "dc703f30db40edc60caf7de4c7d9e655c9a6fa8c8348119717674973f7a531fd", func := "scanfail/scanfaillaw1.TextsRound", spec := "textsRound", apart := false }
def TextsRoundSaid : Prop := textsRoundRow.holds Try.pinned (OpenSpec.ofChange textsRoundSpec)

/-- ITS FALSE NEIGHBOUR: 'it returns false'. Refute it at one input. -/
def textsRoundWrong : ChangeSpec := { name := "textsRound", fn := fun _ => fun
  | [d1, d2, d3] => { results := [.lit (.bool false)], args := [d1, d2, d3] }
  | _ => none }
def TextsRoundWrongFalsely : Prop := textsRoundRow.holds Try.pinned (OpenSpec.ofChange textsRoundWrong)

/-- 'scanfaillaw1.TextsCounted': WHATEVER THE INPUT: true; the input reads as it did. -/
def textsCountedSpec : ChangeSpec := { name := "textsCounted", fn := fun _ => fun
  | [d1, d2, d3] => { results := [.lit (.bool true)], args := [d1, d2, d3] }
  | _ => none }
def textsCountedRow : OpenClaim := { program := "ytcphfhkefgaalab", sum := "dc703f30db40edc60caf7de4c7d9e655c9a6fa8c8348119717674973f7a531fd", func := "scanfail/scanfaillaw1.TextsCounted", spec := "textsCounted", inPlace := ["internal/bytealg.CountString", "internal/bytealg.IndexByteString", "internal/bytealg.IndexString"], named := ["internal/bytealg.MaxLen"], apart := false }
def TextsCountedSaid : Prop := textsCountedRow.holds Try.pinned (OpenSpec.ofChange textsCountedSpec)

/-- ITS FALSE NEIGHBOUR: 'it returns false'. Refute it at one input. -/
def textsCountedWrong : ChangeSpec := { name := "textsCounted", fn := fun _ => fun
  | [d1, d2, d3] => { results := [.lit (.bool false)], args := [d1, d2, d3] }
  | _ => none }
def TextsCountedWrongFalsely : Prop := textsCountedRow.holds Try.pinned (OpenSpec.ofChange textsCountedWrong)

/- THE SECOND FORM. 'bulk': how many values and letters a reading holds, each counted each time it is reached (what is shared counts as often as it is met; a slice's spare places count too). A statement '..UptoSaid' is the law's where the arguments, and the package variables that the reading takes, are together of bulk at most 1048576: NARROWER than '..Said'. Prove '..Said' where nothing that the law and all that it calls make is longer than what came in: it says more and counts as full. Else prove '..UptoSaid'. A law counts once. -/
mutual
def uptoBulk {H : Type} : DataW H → Nat
  | .lit (.string bytes) => bytes.length + 1
  | .lit _ => 1
  | .nil => 1
  | .ptr d => uptoBulk d + 1
  | .slice elems spare => uptoBulkAll elems + uptoBulkAll spare + 1
  | .agg parts => uptoBulkAll parts + 1
  | .iface _ d => uptoBulk d + 1
  | .map entries => uptoBulkEntries entries + 1
  | .held _ => 1
def uptoBulkAll {H : Type} : List (DataW H) → Nat
  | [] => 0
  | d :: r => uptoBulk d + uptoBulkAll r
def uptoBulkEntries {H : Type} : List (Lit × DataW H) → Nat
  | [] => 0
  | x :: r => uptoBulkEntry x + uptoBulkEntries r
def uptoBulkEntry {H : Type} : Lit × DataW H → Nat
  | (.string bytes, d) => bytes.length + uptoBulk d + 1
  | (_, d) => uptoBulk d + 1
 end
def uptoSmall : (H : Type) → List (DataW H) → Bool := fun _ ds => decide (uptoBulkAll ds ≤ 1048576)
def OpenSpec.upto (s : _root_.Go.ChangeSpec) : _root_.Go.OpenSpec := { _root_.Go.OpenSpec.ofChange s with cond := some uptoSmall }

/-- 'scanfaillaw1.TextsPadded', WHERE WHAT IT READS IS OF BULK AT MOST 1048576: true; the input reads as it did. -/
def textsPaddedUptoRow : OpenClaim := { program := "ytcphfhkefgaalab", sum := "dc703f30db40edc60caf7de4c7d9e655c9a6fa8c8348119717674973f7a531fd", func := "scanfail/scanfaillaw1.TextsPadded", spec := "textsPadded", inPlace := ["internal/abi.NoEscape", "internal/bytealg.MakeNoZero"], apart := false, narrowed := true }
def TextsPaddedUptoSaid : Prop := textsPaddedUptoRow.holds Try.pinned (OpenSpec.upto textsPaddedSpec)

/-- 'scanfaillaw1.TextsOrdered', WHERE WHAT IT READS IS OF BULK AT MOST 1048576: true; the input reads as it did. -/
def textsOrderedUptoRow : OpenClaim := { program := "ytcphfhkefgaalab", sum := "dc703f30db40edc60caf7de4c7d9e655c9a6fa8c8348119717674973f7a531fd", func := "scanfail/scanfaillaw1.TextsOrdered", spec := "textsOrdered", inPlace := ["internal/bytealg.abigen_runtime_cmpstring"], apart := false, narrowed := true }
def TextsOrderedUptoSaid : Prop := textsOrderedUptoRow.holds Try.pinned (OpenSpec.upto textsOrderedSpec)

/-- 'scanfaillaw1.TextsDoubled', WHERE WHAT IT READS IS OF BULK AT MOST 1048576: true; the input reads as it did. -/
def textsDoubledUptoRow : OpenClaim := { program := "ytcphfhkefgaalab", sum := "dc703f30db40edc60caf7de4c7d9e655c9a6fa8c8348119717674973f7a531fd", func := "scanfail/scanfaillaw1.TextsDoubled", spec := "textsDoubled", inPlace := ["internal/abi.NoEscape", "internal/bytealg.MakeNoZero"], apart := false, narrowed := true }
def TextsDoubledUptoSaid : Prop := textsDoubledUptoRow.holds Try.pinned (OpenSpec.upto textsDoubledSpec)

/-- 'scanfaillaw1.TextsRound', WHERE WHAT IT READS IS OF BULK AT MOST 1048576: true; the input reads as it did. -/
def textsRoundUptoRow : OpenClaim := { program := "ytcphfhkefgaalab", sum := "dc703f30db40edc60caf7de4c7d9e655c9a6fa8c8348119717674973f7a531fd", func := "scanfail/scanfaillaw1.TextsRound", spec := "textsRound", apart := false, narrowed := true }
def TextsRoundUptoSaid : Prop := textsRoundUptoRow.holds Try.pinned (OpenSpec.upto textsRoundSpec)

/-- 'scanfaillaw1.TextsCounted', WHERE WHAT IT READS IS OF BULK AT MOST 1048576: true; the input reads as it did. -/
def textsCountedUptoRow : OpenClaim := { program := "ytcphfhkefgaalab", sum := "dc703f30db40edc60caf7de4c7d9e655c9a6fa8c8348119717674973f7a531fd", func := "scanfail/scanfaillaw1.TextsCounted", spec := "textsCounted", inPlace := ["internal/bytealg.CountString", "internal/bytealg.IndexByteString", "internal/bytealg.IndexString"], named := ["internal/bytealg.MaxLen"], apart := false, narrowed := true }
def TextsCountedUptoSaid : Prop := textsCountedUptoRow.holds Try.pinned (OpenSpec.upto textsCountedSpec)

end Rows
end Go.Proofs.Ytcphfhkefgaalab
