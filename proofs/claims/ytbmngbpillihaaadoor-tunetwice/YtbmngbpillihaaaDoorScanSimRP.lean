/- What is behind and where it may go back to, for patterns of any kind. -/
import Derived.Test.YtbmngbpillihaaaDoorScanRepM
import Derived.Test.YtbmngbpillihaaaDoorScanHasP
import Derived.Deep.QuietTactic
import Derived.BigQuiet
namespace Go.Proofs.YtbmngbpillihaaaDoor
open Go.RowKit

/-- Patterns of any kind. -/
def okS (k : Int) (t : ByteArray) (n : Int) (len : Nat) : Prop :=
  (1 ≤ k ∧ k ≤ 24) ∧ ((k = 1 ∨ (3 ≤ k ∧ k ≤ 7)) → t.size ≤ 65536) ∧ ((k = 2 ∨ (8 ≤ k ∧ k ≤ 11)) → 0 ≤ n ∧ n ≤ 65536) ∧ ((k = 18 ∨ k = 19) → 2 ≤ len) ∧ ((k = 20 ∨ k = 21 ∨ k = 22) → len = 1)
def FineS : PT → Prop
  | .node k t n _ _ _ _ len _ kids => okS k t n len ∧ ∀ j : Fin len, FineS (kids j)
theorem FineS.ok {T : PT} (h : FineS T) : okS T.k T.t T.n T.len := by cases T; exact h.1
theorem FineS.kid {T : PT} (h : FineS T) {j : Nat} (hj : j < T.len) : FineS (T.kid j) := by
  rw [PT.kid_at hj]
  cases T; exact h.2 ⟨j, hj⟩
end Go.Proofs.YtbmngbpillihaaaDoor
