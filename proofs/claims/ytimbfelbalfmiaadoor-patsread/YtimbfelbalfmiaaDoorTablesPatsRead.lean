/- A world in which the listed tables hold what the program's text lays: for the witness alone. -/
import Derived.Test.YtimbfelbalfmiaaDoorRows
import Derived.LaidLaws
namespace Go.Proofs.YtimbfelbalfmiaaDoor
/-- A block's cells, replaced. -/
def setRowTo (cs : Array Value) : Obj → Obj
  | .cells _ t frozen => .cells cs t frozen
  | o => o
/-- A world, its listed tables laid. -/
def withPatsReadTables (w : World) : World :=
  { w with heap := (w.heap.modify 0 (setRowTo (#[.string ⟨#[]⟩, .int .i64 0, .int .i64 0, .int .i64 0, .string ⟨#[]⟩, .int .i64 1, .int .i64 0, .int .i64 0, .string ⟨#[76, 69, 78]⟩, .int .i64 2, .int .i64 0, .int .i64 0, .string ⟨#[65, 78, 89]⟩, .int .i64 1, .int .i64 0, .int .i64 0, .string ⟨#[78, 79, 84, 65, 78, 89]⟩, .int .i64 1, .int .i64 0, .int .i64 0, .string ⟨#[83, 80, 65, 78]⟩, .int .i64 1, .int .i64 0, .int .i64 0, .string ⟨#[66, 82, 69, 65, 75]⟩, .int .i64 1, .int .i64 0, .int .i64 0, .string ⟨#[66, 82, 69, 65, 75, 88]⟩, .int .i64 1, .int .i64 0, .int .i64 0, .string ⟨#[84, 65, 66]⟩, .int .i64 2, .int .i64 0, .int .i64 0, .string ⟨#[82, 84, 65, 66]⟩, .int .i64 2, .int .i64 0, .int .i64 0, .string ⟨#[80, 79, 83]⟩, .int .i64 2, .int .i64 0, .int .i64 0, .string ⟨#[82, 80, 79, 83]⟩, .int .i64 2, .int .i64 0, .int .i64 0, .string ⟨#[82, 69, 77]⟩, .int .i64 0, .int .i64 0, .int .i64 0, .string ⟨#[65, 82, 66]⟩, .int .i64 0, .int .i64 0, .int .i64 0, .string ⟨#[66, 65, 76]⟩, .int .i64 0, .int .i64 0, .int .i64 0, .string ⟨#[70, 65, 73, 76]⟩, .int .i64 0, .int .i64 0, .int .i64 0, .string ⟨#[70, 69, 78, 67, 69]⟩, .int .i64 0, .int .i64 0, .int .i64 0, .string ⟨#[65, 66, 79, 82, 84]⟩, .int .i64 0, .int .i64 0, .int .i64 0, .string ⟨#[]⟩, .int .i64 0, .int .i64 2, .int .i64 4096, .string ⟨#[]⟩, .int .i64 0, .int .i64 2, .int .i64 4096, .string ⟨#[65, 82, 66, 78, 79]⟩, .int .i64 0, .int .i64 1, .int .i64 1, .string ⟨#[]⟩, .int .i64 3, .int .i64 1, .int .i64 1, .string ⟨#[]⟩, .int .i64 3, .int .i64 1, .int .i64 1, .string ⟨#[]⟩, .int .i64 3, .int .i64 0, .int .i64 0, .string ⟨#[]⟩, .int .i64 3, .int .i64 0, .int .i64 0]))) }
end Go.Proofs.YtimbfelbalfmiaaDoor
