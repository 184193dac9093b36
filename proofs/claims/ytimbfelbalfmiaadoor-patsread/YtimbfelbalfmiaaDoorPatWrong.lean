/- What pats.wrongNode, wrongBelow and Wrong do, for every pattern. -/
import Derived.Test.YtimbfelbalfmiaaDoorPatSize
namespace Go.Proofs.YtimbfelbalfmiaaDoor
open Go.RowKit

/-- The table of kinds as the program's text lays it. -/
def shapeWords : List ByteArray := [⟨#[]⟩, ⟨#[]⟩, ⟨#[76, 69, 78]⟩, ⟨#[65, 78, 89]⟩, ⟨#[78, 79, 84, 65, 78, 89]⟩, ⟨#[83, 80, 65, 78]⟩, ⟨#[66, 82, 69, 65, 75]⟩, ⟨#[66, 82, 69, 65, 75, 88]⟩, ⟨#[84, 65, 66]⟩, ⟨#[82, 84, 65, 66]⟩, ⟨#[80, 79, 83]⟩, ⟨#[82, 80, 79, 83]⟩, ⟨#[82, 69, 77]⟩, ⟨#[65, 82, 66]⟩, ⟨#[66, 65, 76]⟩, ⟨#[70, 65, 73, 76]⟩, ⟨#[70, 69, 78, 67, 69]⟩, ⟨#[65, 66, 79, 82, 84]⟩, ⟨#[]⟩, ⟨#[]⟩, ⟨#[65, 82, 66, 78, 79]⟩, ⟨#[]⟩, ⟨#[]⟩, ⟨#[]⟩, ⟨#[]⟩]
def wordK (K : Nat) : ByteArray := shapeWords.getD K ByteArray.empty
def Shapes (w : World) : Prop := ∀ K, 1 ≤ K → K ≤ 24 → w.cell? ⟨0, K * 4, none⟩ = some (.string (wordK K)) ∧ w.cell? ⟨0, K * 4 + 1, none⟩ = some (.int .i64 (hasK K)) ∧ w.cell? ⟨0, K * 4 + 2, none⟩ = some (.int .i64 (leastK K)) ∧ w.cell? ⟨0, K * 4 + 3, none⟩ = some (.int .i64 (mostK K))
theorem Shapes.later {w w' : World} (h : Shapes w) (hb : Below w.heap.size w w') : Shapes w' := fun K h1 h2 => by
  obtain ⟨a, b, c, d⟩ := h K h1 h2
  exact ⟨cell_later hb a, cell_later hb b, cell_later hb c, cell_later hb d⟩
theorem hasK_four (K : Int) : hasK K = 0 ∨ hasK K = 1 ∨ hasK K = 2 ∨ hasK K = 3 := by unfold hasK; split <;> (try split) <;> (try split) <;> simp

end Go.Proofs.YtimbfelbalfmiaaDoor
