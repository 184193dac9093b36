/- Statements: each of its cells is one cell. A program in memory. -/
import Derived.Test.YtpphjddljngkmaaGreatDoorStBM
import Derived.Test.YtpphjddljngkmaaGreatDoorStCP
import Derived.Test.YtpphjddljngkmaaGreatDoorPrintRows4M
import Derived.Deep.MidRow
namespace Go.Proofs.YtpphjddljngkmaaGreatDoor
open Go.RowKit

theorem SV.cells_one (S : SV) : S.cells.all (·.oneCell') = true := by
  unfold SV.cells NL.v
  simp [Value.oneCell']
end Go.Proofs.YtpphjddljngkmaaGreatDoor

namespace Go.Proofs.YtpphjddljngkmaaGreatDoor
open Go.RowKit

/-- Where a program lies. -/
structure PV where
  xa : Option Addr
  gb : Nat
  ob : Nat
  cap : Nat
def PV.v (V : PV) (n : Nat) : Value := .slice V.xa n V.cap
structure PIn (w : World) (V : PV) (P : List SV) : Prop where
  cap : P.length ≤ V.cap
  max : V.cap ≤ maxLen
  at_ : 0 < P.length → V.xa = some ⟨V.gb, V.ob, none⟩
  row : ∀ (i : Nat) S, P[i]? = some S → w.rangeAt V.gb (V.ob + i * 24) S.cells.toList ∧ S.In w
theorem idx24 {g o n cap i : Nat} (hi : i < n) (w : World) :
    (Instr.indexAt 22 (.slice (some ⟨g, o, none⟩) n cap) (.int .i64 (i : Int))).run Tryz.prog w = .ok (.pointer (some ⟨g, o + i * 24, none⟩)) w := by
  have h0 : (0 : Int) ≤ (i : Int) ∧ (i : Int) < (n : Int) := by omega
  cases hq : Tryz.prog.info? 33 with
  | none => have := size_stmt; simp [hq] at this
  | some x =>
    have hz : x.size = 24 := by have := size_stmt; simpa [hq] using this
    simp [Instr.indexAt, asIntOf, run_underlying Tryz.underlying22, h0, sizeOf, typeInfo, hq, hz, Addr.add_lit]
    intro h
    omega
theorem PIn.later {w w' : World} {V : PV} {P : List SV} (h : PIn w V P) (hb : Below w.heap.size w w') : PIn w' V P :=
  ⟨h.cap, h.max, h.at_, fun i S hS => ⟨fun j v hj => cell_later hb ((h.row i S hS).1 j v hj), (h.row i S hS).2.later hb⟩⟩
end Go.Proofs.YtpphjddljngkmaaGreatDoor
