/- What the document's Show does, kind by kind. What the document's Show does of kinds with a text or a number. -/
import Derived.Test.YtccnomomdfjpmaaDoorPrintBrk4M
import Derived.Laws.IdiomStrings
import Derived.Test.YtccnomomdfjpmaaDoorRtAM
import Derived.Laws.Runes
import Derived.Test.YtccnomomdfjpmaaDoorRefIn4P
import Derived.Test.YtccnomomdfjpmaaDoorRtCM
import Derived.Deep.RegionHeld3
namespace Go.Proofs.YtccnomomdfjpmaaDoor
open Go.RowKit
set_option linter.unusedVariables false

theorem cells5s {W : World} {g : Nat} {a b c d e : Value} {t : TypeId} (h : W.heap[g]? = some (.cells #[a, b, c, d, e] t (0, 0))) :
    W.cell? ⟨g, 0, none⟩ = some a ∧ W.cell? ⟨g, 1, none⟩ = some b ∧ W.cell? ⟨g, 2, none⟩ = some c ∧ W.cell? ⟨g, 3, none⟩ = some d ∧ W.cell? ⟨g, 4, none⟩ = some e := by
  refine ⟨?_, ?_, ?_, ?_, ?_⟩ <;> rw [cell_of_row _ _ _ _ _ _ h] <;> rfl
end Go.Proofs.YtccnomomdfjpmaaDoor

namespace Go.Proofs.YtccnomomdfjpmaaDoor
open Go.RowKit
set_option linter.unusedVariables false

theorem wordK_size (K : Nat) : (wordK K).size ≤ 6 := by
  unfold wordK
  rcases Nat.lt_or_ge K 25 with h | h
  · have h : K = 0 ∨ K = 1 ∨ K = 2 ∨ K = 3 ∨ K = 4 ∨ K = 5 ∨ K = 6 ∨ K = 7 ∨ K = 8 ∨ K = 9 ∨ K = 10 ∨ K = 11 ∨ K = 12 ∨ K = 13 ∨ K = 14 ∨ K = 15 ∨ K = 16 ∨ K = 17 ∨ K = 18 ∨ K = 19 ∨ K = 20 ∨ K = 21 ∨ K = 22 ∨ K = 23 ∨ K = 24 := by omega
    rcases h with rfl | rfl | rfl | rfl | rfl | rfl | rfl | rfl | rfl | rfl | rfl | rfl | rfl | rfl | rfl | rfl | rfl | rfl | rfl | rfl | rfl | rfl | rfl | rfl | rfl <;> decide
  · have : shapeWords.getD K ByteArray.empty = ByteArray.empty := by
      rw [List.getD, List.getElem?_eq_none (by show 25 ≤ K; exact h)]; rfl
    rw [this]; decide
end Go.Proofs.YtccnomomdfjpmaaDoor
