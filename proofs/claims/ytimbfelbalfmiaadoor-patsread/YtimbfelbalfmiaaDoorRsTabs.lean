/- The table that PatsRead reads. -/
import Derived.Test.YtimbfelbalfmiaaDoorOpenPat6
namespace Go.Proofs.YtimbfelbalfmiaaDoor
open Go.RowKit

theorem tabs_read4 {w : World} (h : laidMetH Tryd.prog Rows.patsReadRow.laid w) : Shapes w := by
  have e : (Rows.patsReadRow.laid.filter fun x => x.2.handleName?.isSome) = [] := by kernel_rfl
  have h' : laidMet Tryd.prog Rows.patsReadRow.laid w := by
    have hp := h
    unfold laidMetH at hp
    rw [e] at hp
    exact hp
  exact shapes_of (rest := _) h'
end Go.Proofs.YtimbfelbalfmiaaDoor
