/- Is the byte at a place one of a node's? The set of its text is made once. -/
import Derived.Test.YtbmngbpillihaaaDoorScanRepM
import Derived.Lib.AppendZeros
import Derived.Lib.AppendZerosOnto
import Derived.OrdersHeld
import Derived.StillTail
import Derived.RegionTactic
import Derived.Maps.RangeWalk
import Derived.Deep.RegionHeld3
import Derived.BigRegion
import Derived.Deep.QuietTactic
import Derived.BigQuiet
import Derived.Test.YtbmngbpillihaaaDoorOf5P
namespace Go.Proofs.YtbmngbpillihaaaDoor
open Go.RowKit

theorem inT_any (t : ByteArray) (b : Nat) : ∀ k, k ≤ t.data.toList.length → inT t k b = (t.data.toList.take k).any fun c => c.toNat == b
  | 0, _ => by simp [inT]
  | k + 1, h => by
    rw [inT, inT_any t b k (by omega), List.take_succ_eq_append_getElem (by omega), List.any_append]
    congr 1
    rw [List.getD_eq_getElem?_getD, List.getElem?_eq_getElem (by omega)]
    simp [Bool.beq_comm]
theorem inT_inB (t : ByteArray) (b : Nat) : inT t t.size b = inB t b := by
  rw [inT_any t b t.size (by rw [Array.length_toList]; exact Nat.le_refl _)]
  unfold inB
  rw [List.take_of_length_le (by rw [Array.length_toList]; exact Nat.le_refl _)]
end Go.Proofs.YtbmngbpillihaaaDoor
