/- A world in which the listed tables hold what the program's text lays: for the witness alone. -/
import Derived.Test.YtmplbdapehmciaaDoorRows
import Derived.LaidLaws
namespace Go.Proofs.YtmplbdapehmciaaDoor
/-- A block's cells, replaced. -/
def setRowTo (cs : Array Value) : Obj → Obj
  | .cells _ t frozen => .cells cs t frozen
  | o => o
/-- A world, its listed tables laid. -/
def withTextsListsTables (w : World) : World :=
  { w with heap := ((w.heap.modify 2 (setRowTo ((([128, 191, 160, 191, 128, 159, 144, 191, 128, 143, 0, 0, 0, 0, 0, 0, 0, 0, 0, 0, 0, 0, 0, 0, 0, 0, 0, 0, 0, 0, 0, 0] : List Int).map fun n => Value.int .u8 n).toArray))).modify 1 (setRowTo ((Pinned.utf8FirstZ.map fun (n : Nat) => Value.int .u8 (n : Int)).toArray))) }
end Go.Proofs.YtmplbdapehmciaaDoor
