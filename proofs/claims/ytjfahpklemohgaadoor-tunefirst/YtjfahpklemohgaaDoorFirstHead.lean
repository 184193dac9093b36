/- With which bytes a pattern may begin, and whether it may be empty: tune.First's own reckoning. -/
import Derived.Test.YtjfahpklemohgaaDoorFsPlain
import Derived.Test.YtjfahpklemohgaaDoorExtWalk
import Derived.Test.YtjfahpklemohgaaDoorSetNot5M
import Derived.Test.YtjfahpklemohgaaDoorScanHas
namespace Go.Proofs.YtjfahpklemohgaaDoor
open Go.RowKit

def setO (c : Array Value) : Obj := .cells c 29 (0, 0)
def FstPost (x : Fs) (w : World) (e : Ending) (w' : World) : Prop := e = .returned (.tuple #[.agg (sc x.1), .bool x.2]) ∧ Below w.heap.size w w'
def FstSays (T : PT) : Prop := ∀ w : World, T.In w → FineS T → Calls Tryd.prog 10 #[pv T] w (FstPost T.fst w)
def FCatSays (T : PT) : Prop := ∀ w : World, T.In w → FineS T → Calls Tryd.prog 22 #[.slice T.xa T.len T.cap] w (FstPost (fsCatTo (fun i => (T.kid i).fst) T.len) w)
def FAltSays (T : PT) : Prop := ∀ w : World, T.In w → FineS T → Calls Tryd.prog 23 #[.slice T.xa T.len T.cap] w (FstPost (fsAltTo (fun i => (T.kid i).fst) T.len) w)

theorem results_set {fn : Func} {p u : Tmp} (h : fn.results = #[.cell p 29, .tmp u]) (tmps : Array Value) (w : World) (g : Nat) (cs : Array Value)
    (hp : tmps.getD p undef = .pointer (some ⟨g, 0, none⟩)) (hg : w.heap[g]? = some (.cells cs 29 (0, 0))) (hi : (Tryd.prog.info? 29).map (·.size) = some cs.size) :
    (results fn tmps).run Tryd.prog w = .ok (.tuple #[.agg cs, tmps.getD u undef]) w := by
  have hp' : tmps[p]?.getD undef = .pointer (some ⟨g, 0, none⟩) := by simpa using hp
  have hl := run_loadVar_row w g 29 29 cs (0, 0) _ hg Tryd.underlying29 rfl hi
  rw [results_cell_tmp h]
  simp [hp', asAddr, hl]
theorem sc_info (p : Nat → Bool) : (Tryd.prog.info? 29).map (·.size) = some (sc p).size := by rw [sc_size]; exact size_set
theorem zerosS_info : (Tryd.prog.info? 29).map (·.size) = some zerosS.size := size_set
theorem zerosS_one : zerosS.all (·.oneCell') = true := by simp [zerosS, Value.oneCell']
theorem wpList_store_eq {ops : Array Oper} {rest : List Oper} {o : Oper} {a : Act} {w W : World} {Q : Exit → Act → World → Prop} (hgd : o.guard = none) (ty : TypeId) (x y : Operand) (ho : o.op = .store ty x y)
    (g : Nat) (cells : Array Value) (hx : a.eval x = .pointer (some ⟨g, 0, none⟩)) (hy : a.eval y = .agg cells)
    (t : TypeId) (old : Array Value) (hg : w.heap[g]? = some (.cells old t (0, 0))) (hi : (Tryd.prog.info? ty).map (·.size) = some cells.size)
    (hold : old.size = cells.size) (h1 : cells.all (·.oneCell') = true) (hW : W = w.setRow g cells)
    (h : wpList Tryd.prog ops Q rest (a.put o.dst undef) W) : wpList Tryd.prog ops Q (o :: rest) a w :=
  wpList_store_row hgd ty x y ho g cells hx hy t old hg hi hold h1 (hW ▸ h)

/-- Ahead of the choice: the pattern, the result, nothing and all. -/
def preW (w1 : World) (A : Array Value) : World := (((w1.alloc (setO zerosS)).alloc (setO zerosS)).setRow w1.heap.size zerosS).setRow (w1.heap.size + 1) A
structure Pre (w W : World) (n : Nat) (p : Array Value) (A : Array Value) : Prop where
  pat : W.heap[w.heap.size]? = some (.cells p 25 (0, 0))
  res : W.heap[w.heap.size + 1]? = some (setO zerosS)
  none : W.heap[n]? = some (setO zerosS)
  all : W.heap[n + 1]? = some (setO A)
  bel : Below w.heap.size w W
  far : w.heap.size + 1 < n
theorem pre_of {w w1 : World} {p A : Array Value} (hb : Below ((w.alloc (.cells p 25 (0, 0))).alloc (setO zerosS)).heap.size ((w.alloc (.cells p 25 (0, 0))).alloc (setO zerosS)) w1) :
    Pre w (preW w1 A) w1.heap.size p A := by
  have hs := hb.size
  simp only [World.size_alloc] at hs
  have h0 : w1.heap[w.heap.size]? = some (.cells p 25 (0, 0)) := row_below (at_old (by simp) (at_new rfl)) hb
  have h1 : w1.heap[w.heap.size + 1]? = some (setO zerosS) := row_below (at_new (by simp)) hb
  have a0 : (w1.alloc (setO zerosS)).heap[w1.heap.size]? = some (setO zerosS) := at_new rfl
  have a1 : ((w1.alloc (setO zerosS)).alloc (setO zerosS)).heap[w1.heap.size]? = some (setO zerosS) := at_keep3 a0
  have a2 : ((w1.alloc (setO zerosS)).alloc (setO zerosS)).heap[w1.heap.size + 1]? = some (setO zerosS) := at_new (by simp)
  have hB : Below w.heap.size w ((w1.alloc (setO zerosS)).alloc (setO zerosS)) := by
    have := bnext (((Below.refl w.heap.size w).alloc (Nat.le_refl _) _).alloc (by simp) _) hb
    exact (this.alloc this.size _).alloc (by simp; omega) _
  refine ⟨?_, ?_, ?_, ?_, ?_, by omega⟩
  · exact (setRow_other _ _ _ _ (by omega)).trans ((setRow_other _ _ _ _ (by omega)).trans (at_keep3 (at_keep3 h0)))
  · exact (setRow_other _ _ _ _ (by omega)).trans ((setRow_other _ _ _ _ (by omega)).trans (at_keep3 (at_keep3 h1)))
  · exact (setRow_other _ _ _ _ (by omega)).trans (setRow_heap _ _ _ _ _ _ a1)
  · exact setRow_heap _ _ _ _ _ _ ((setRow_other _ _ _ _ (by omega)).trans a2)
  · exact below_setRow (below_setRow hB _ (by omega) _) _ (by omega) _
theorem cells5 {w : World} {z : Nat} {v0 v1 v2 v3 v4 : Value} (h : w.heap[z]? = some (.cells #[v0, v1, v2, v3, v4] 25 (0, 0))) :
    w.cell? ⟨z, 0, none⟩ = some v0 ∧ w.cell? ⟨z, 1, none⟩ = some v1 ∧ w.cell? ⟨z, 2, none⟩ = some v2 ∧ w.cell? ⟨z, 3, none⟩ = some v3 ∧ w.cell? ⟨z, 4, none⟩ = some v4 :=
  ⟨(cell_of_row w _ _ _ _ _ h).trans rfl, (cell_of_row w _ _ _ _ _ h).trans rfl, (cell_of_row w _ _ _ _ _ h).trans rfl, (cell_of_row w _ _ _ _ _ h).trans rfl, (cell_of_row w _ _ _ _ _ h).trans rfl⟩
theorem of_says (t : ByteArray) (ht : t.size ≤ maxLen) (w : World) : Calls Tryd.prog 21 #[.string t] w fun e w' => e = .returned (.agg (sc (inB t))) ∧ Below w.heap.size w w' := by
  have := of_any t w ht
  rw [show inT t t.size = inB t from funext fun b => inT_inB t b] at this
  exact this
theorem not_says (p : Nat → Bool) (w : World) : Calls Tryd.prog 20 #[.agg (sc p)] w fun e w' => e = .returned (.agg (sc fun c => !p c)) ∧ Below w.heap.size w w' := not_any p w
theorem union_says (p q : Nat → Bool) (w : World) : Calls Tryd.prog 44 #[.agg (sc p), .agg (sc q)] w fun e w' => e = .returned (.agg (sc fun c => p c || q c)) ∧ Below w.heap.size w w' := union_any p q w
end Go.Proofs.YtjfahpklemohgaaDoor
