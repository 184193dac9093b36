/- What the document's Show does of pieces and alternatives; Show and Print of any pattern. -/
import Derived.Test.YtccnomomdfjpmaaDoorRefShow4bM
import Derived.Test.YtccnomomdfjpmaaDoorRefIn4P
import Derived.Test.YtccnomomdfjpmaaDoorPatSizeP
import Derived.ArgAppend
import Derived.Deep.AppendLies
import Derived.Laws.OwnMore
namespace Go.Proofs.YtccnomomdfjpmaaDoor
open Go.RowKit
set_option linter.unusedVariables false

/-- What Print answers. -/
def printSaid (T : PT) : Value := if T.wrong = 0 then (if 65536 < T.txt.length then .tuple #[.string ⟨#[]⟩, .int .i64 4] else .tuple #[.string ⟨T.txt.toArray⟩, .int .i64 0]) else .tuple #[.string ⟨#[]⟩, .int .i64 T.wrong]
theorem wrong_nought {T : PT} (h : T.wrong = 0) : T.bad = 0 ∧ T.cnt ≤ 4096 := by
  unfold PT.wrong at h
  cases hf : T.fits with
  | false => rw [hf] at h; simp at h
  | true =>
    rw [hf] at h
    refine ⟨by simpa using h, ?_⟩
    unfold PT.fits at hf
    simp at hf
    exact hf.1
end Go.Proofs.YtccnomomdfjpmaaDoor
