/- What fill does with any pattern: its nodes are laid among the machine's, with their names and the numbers of the rules that they call. -/
import Derived.Test.YtbmngbpillihaaaDoorScanRepM
import Derived.Lib.AppendZeros
import Derived.Lib.AppendZerosOnto
import Derived.OrdersHeld
import Derived.StillTail
import Derived.RegionTactic
import Derived.Maps.RangeWalk
import Derived.Deep.RegionHeld3
import Derived.BigRegion
import Derived.Deep.QuietTactic
import Derived.BigQuiet
import Derived.Test.YtbmngbpillihaaaDoorSimpSPM
import Derived.Deep.CutBlock
namespace Go.Proofs.YtbmngbpillihaaaDoor
open Go.RowKit

/-- Kinds that are kinds, names that are not too long. -/
def NZ : PT → Prop
  | .node k _ _ nm _ _ _ len _ kids => (k ≠ 0 ∧ ((21 ≤ k ∧ k ≤ 24) → nm.size ≤ 1000000)) ∧ ∀ j : Fin len, NZ (kids j)
end Go.Proofs.YtbmngbpillihaaaDoor
