/- How few and how many bytes: tune.Length's own reckoning. -/
import Derived.Test.YtbmngbpillihaaaDoorSimpQuickM
import Derived.Test.YtbmngbpillihaaaDoorPatWrongP
import Derived.Laws.ResultCell
import Derived.Deep.QuietTactic
import Derived.BigQuiet
namespace Go.Proofs.YtbmngbpillihaaaDoor
open Go.RowKit

def exV (e : Ex) : Value := .agg #[.bool e.1, .int .i64 e.2.1, .int .i64 e.2.2]
theorem size_extent : (Tryd.prog.info? 54).map (·.size) = some 3 := by kernel_rfl
def ex3 (v0 v1 v2 : Value) : Obj := .cells #[v0, v1, v2] 54 (0, 0)
set_option maxRecDepth 100000 in
set_option maxHeartbeats 1000000 in
theorem just_any (n : Int) (w : World) : Calls Tryd.prog 59 #[.int .i64 n] w fun e w' => e = .returned (exV (true, n, n)) ∧ Below w.heap.size w w' := by
  unfold exV
  go_enter Tryd.func59, Tryd.ntmps59
  go_wp2_with fail
  exact bodyPost_ret (results_cell_row rfl _ _ w.heap.size 54 #[.bool true, .int .i64 n, .int .i64 n] (0, 0) _ rfl (at_new rfl) Tryd.underlying54 rfl size_extent) rfl ⟨rfl, (Below.refl _ _).alloc (Nat.le_refl _) _⟩
def set3 (w : World) (z : Nat) (v0 v1 v2 : Value) : World := ((w.setCell ⟨z, 0, none⟩ v0).setCell ⟨z, 1, none⟩ v1).setCell ⟨z, 2, none⟩ v2
theorem set3_row {w : World} {z : Nat} {c0 c1 c2 : Value} (h : w.heap[z]? = some (ex3 c0 c1 c2)) (v0 v1 v2 : Value) : (set3 w z v0 v1 v2).heap[z]? = some (ex3 v0 v1 v2) := by
  have h0 : (w.setCell ⟨z, 0, none⟩ v0).heap[z]? = some (ex3 v0 c1 c2) := heap_setCell_same _ z 0 _ _ v0 h
  have h1 : ((w.setCell ⟨z, 0, none⟩ v0).setCell ⟨z, 1, none⟩ v1).heap[z]? = some (ex3 v0 v1 c2) := heap_setCell_same _ z 1 _ _ v1 h0
  exact heap_setCell_same _ z 2 _ _ v2 h1
theorem set3_below {a w : World} (h : Below a.heap.size a w) {z : Nat} (hz : a.heap.size ≤ z) (v0 v1 v2 : Value) : Below a.heap.size a (set3 w z v0 v1 v2) :=
  But.below h ((((But.refl z w).setCell 0 v0).setCell 1 v1).setCell 2 v2) hz
theorem ex3_held {w : World} {z : Nat} {c0 c1 c2 : Value} (h : w.heap[z]? = some (ex3 c0 c1 c2)) :
    (w.cell? ⟨z, 0, none⟩ = some c0 ∧ w.cell? ⟨z, 1, none⟩ = some c1 ∧ w.cell? ⟨z, 2, none⟩ = some c2) ∧ w.frozen? ⟨z, 0, none⟩ = false ∧ w.frozen? ⟨z, 1, none⟩ = false ∧ w.frozen? ⟨z, 2, none⟩ = false :=
  ⟨⟨(cell_of_row w _ _ _ _ _ h).trans rfl, (cell_of_row w _ _ _ _ _ h).trans rfl, (cell_of_row w _ _ _ _ _ h).trans rfl⟩, frozen_of_row w z 0 _ _ h, frozen_of_row w z 1 _ _ h, frozen_of_row w z 2 _ _ h⟩
theorem at_keep3 {w : World} {z : Nat} {x o : Obj} (h : w.heap[z]? = some x) : (w.alloc o).heap[z]? = some x := at_old (Array.getElem?_eq_some_iff.1 h).1 h
def ExtPost (x : Ex) (w : World) (e : Ending) (w' : World) : Prop := e = .returned (exV x) ∧ Below w.heap.size w w'
def ExtSays (T : PT) : Prop := ∀ w : World, T.In w → FineS T → Calls Tryd.prog 24 #[pv T] w (ExtPost T.ext w)
set_option maxRecDepth 100000 in
set_option maxHeartbeats 1000000 in
theorem ext_k1 (T : PT) (q : T.k = 1) (w : World) :
    Calls Tryd.prog 24 #[pv T] w (ExtPost T.ext w) := by
  have HX := hide (ext_1 (T := T) q)
  unfold pv
  rw [unhide HX, q]
  unfold ExtPost exV
  clear q
  go_enter Tryd.func24, Tryd.ntmps24
  go_wp2_with fail
  refine (just_any _ _).mono ?_
  rintro e w1 ⟨rfl, hb1⟩
  have HB := hide (bnext (((Below.refl w.heap.size w).alloc (Nat.le_refl _) _).alloc (by simp) _) hb1)
  have g1 : w1.heap[w.heap.size + 1]? = some (ex3 (.bool false) (.int .i64 0) (.int .i64 0)) := row_below (at_new (by simp)) hb1
  obtain ⟨⟨c0, c1, c2⟩, f0, f1, f2⟩ := ex3_held g1
  have HG := hide g1
  clear hb1 g1
  unfold exV
  go_wp2_with fail
  exact bodyPost_ret (results_cell_row rfl _ _ (w.heap.size + 1) 54 #[.bool true, .int .i64 ((T.t.size : Int)), .int .i64 ((T.t.size : Int))] (0, 0) _ rfl (set3_row (unhide HG) _ _ _) Tryd.underlying54 rfl size_extent) rfl ⟨rfl, set3_below (unhide HB) (by omega) _ _ _⟩
end Go.Proofs.YtbmngbpillihaaaDoor
