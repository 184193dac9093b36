/- The tables out of what the rows list. -/
import Derived.Test.YtpclpjcemeckgaaDoorOpenStmt
import Derived.Test.YtpclpjcemeckgaaDoorNumPr
import Derived.Stop.LaidErr
namespace Go.Proofs.YtpclpjcemeckgaaDoor
open Go.ChangeShapes Go.WideShapes Go.ChangeAt Go.RowKit Go.Deep

theorem tabs_codeDepth {w : World} (h : laidMetH Tryd.prog Rows.codeDepthRow.laid w) : ShapesX w ∧ Shapes w ∧ Lib.TabIs Tryd.prog w "internal/strconv.uint64pow10" .u64 Lib.pow10Tab := by
  have e : (Rows.codeDepthRow.laid.filter fun x => x.2.handleName?.isSome) = [] := by kernel_rfl
  have h' : laidMet Tryd.prog Rows.codeDepthRow.laid w := by
    have hp := h
    unfold laidMetH at hp
    rw [e] at hp
    exact hp
  refine ⟨shapesX_of (rest := _) (laidMet.tail (laidMet.tail (laidMet.tail (laidMet.tail h')))), shapes_of (rest := _) (laidMet.tail (laidMet.tail (laidMet.tail h'))), ?_⟩
  exact Lib.tabIs_of_head (g := 2) (t := 119) (e := 112) (n := 20) (by kernel_rfl) (by kernel_rfl) Tryd.underlying119 Tryd.underlying112 (by kernel_rfl) (by kernel_rfl) (rest := _) (show laidMet Tryd.prog (("internal/strconv.uint64pow10", Lib.tabData .u64 Lib.pow10Tab) :: _) w from h'.tail.tail)
theorem tabs_codeJumps {w : World} (h : laidMetH Tryd.prog Rows.codeJumpsRow.laid w) : ShapesX w ∧ Shapes w ∧ Lib.TabIs Tryd.prog w "internal/strconv.uint64pow10" .u64 Lib.pow10Tab := by
  have e : (Rows.codeJumpsRow.laid.filter fun x => x.2.handleName?.isSome) = [] := by kernel_rfl
  have h' : laidMet Tryd.prog Rows.codeJumpsRow.laid w := by
    have hp := h
    unfold laidMetH at hp
    rw [e] at hp
    exact hp
  refine ⟨shapesX_of (rest := _) (laidMet.tail (laidMet.tail (laidMet.tail (laidMet.tail h')))), shapes_of (rest := _) (laidMet.tail (laidMet.tail (laidMet.tail h'))), ?_⟩
  exact Lib.tabIs_of_head (g := 2) (t := 119) (e := 112) (n := 20) (by kernel_rfl) (by kernel_rfl) Tryd.underlying119 Tryd.underlying112 (by kernel_rfl) (by kernel_rfl) (rest := _) (show laidMet Tryd.prog (("internal/strconv.uint64pow10", Lib.tabData .u64 Lib.pow10Tab) :: _) w from h'.tail.tail)
end Go.Proofs.YtpclpjcemeckgaaDoor
