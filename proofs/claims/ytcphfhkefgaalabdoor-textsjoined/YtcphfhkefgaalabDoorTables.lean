/- A world in which the two listed tables hold what the program's text lays: for the witness alone. -/
import Derived.Test.YtcphfhkefgaalabDoorRows
import Derived.LaidLaws
namespace Go.Proofs.YtcphfhkefgaalabDoor
/-- A block's cells, replaced. -/
def setRowTo (cs : Array Value) : Obj → Obj
  | .cells _ t frozen => .cells cs t frozen
  | o => o
/-- A world, its two tables laid. -/
def withTables (w : World) : World :=
  { w with heap := (w.heap.modify 1 (setRowTo (Pinned.utf8FirstZ.map fun (n : Nat) => Value.int .u8 (n : Int)).toArray)).modify 2 (setRowTo (([128, 191, 160, 191, 128, 159, 144, 191, 128, 143, 0, 0, 0, 0, 0, 0, 0, 0, 0, 0, 0, 0, 0, 0, 0, 0, 0, 0, 0, 0, 0, 0] : List Int).map fun n => Value.int .u8 n).toArray) }
end Go.Proofs.YtcphfhkefgaalabDoor
