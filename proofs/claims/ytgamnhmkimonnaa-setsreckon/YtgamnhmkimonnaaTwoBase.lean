/- What the document's Two does, for its four ways of putting two sets together. -/
import Derived.Test.YtgamnhmkimonnaaBack3
import Derived.Deep.RegionHeld3
import Derived.Deep.MidRow
import Derived.Laws.IdiomCopy
import Derived.Deep.Cut
import Derived.Deep.CutRange
namespace Go.Proofs.Ytgamnhmkimonnaa
open Go.RowKit

/-- 256 bools lie there. -/
def RowB (W : World) (g : Nat) : Prop := ∃ C, W.heap[g]? = some (.cells C 25 (0, 0)) ∧ C.size = 256
theorem zerosB_size : zerosB.size = 256 := by simp [zerosB]
theorem rowB_new (W : World) : RowB (W.alloc (.cells zerosB 25)) W.heap.size := ⟨zerosB, at_new rfl, zerosB_size⟩
theorem rowB_new1 (W : World) (O : Obj) : RowB ((W.alloc O).alloc (.cells zerosB 25)) (W.heap.size + 1) := ⟨zerosB, at_new (by simp only [World.size_alloc]), zerosB_size⟩
theorem rowB_alloc (W : World) (O : Obj) (g : Nat) (h : RowB W g) : RowB (W.alloc O) g := by
  obtain ⟨C, h1, h2⟩ := h
  exact ⟨C, at_old (lt_of_block h1) h1, h2⟩
theorem rowB_drew (W : World) (g : Nat) (h : RowB W g) : RowB W.drew g := h
theorem rowB_setRow (W : World) (g k : Nat) (C : Array Value) (hC : C.size = 256) (h : RowB W g) : RowB (W.setRow k C) g := by
  obtain ⟨D, h1, h2⟩ := h
  by_cases e : g = k
  · subst e
    exact ⟨C, setRow_heap _ _ _ _ _ _ h1, hC⟩
  · exact ⟨D, (setRow_other _ _ _ _ e).trans h1, h2⟩
theorem rowB_below {W W' : World} (hb : Below W.heap.size W W') (g : Nat) (h : RowB W g) : RowB W' g := by
  obtain ⟨C, h1, h2⟩ := h
  exact ⟨C, row_below h1 hb, h2⟩
theorem store_rowB (C : Array Value) (hC : C.size = 256) (h1 : C.all (·.oneCell') = true) (W : World) (g : Nat) (h : RowB W g) : (storeCells ⟨g, 0, none⟩ C.toList 0).run Try.prog W = .ok () (W.setRow g C) := by
  obtain ⟨D, k1, k2⟩ := h
  have hi := size_bools
  rw [← hC] at hi
  have := run_storeVar_row (P := Try.prog) W g 25 25 D C k1 hi (k2.trans hC.symm) h1
  cases hq : Try.prog.info? 25 with
  | none => simp [hq] at hi
  | some i =>
    have hs : C.size = i.size := by simp [hq] at hi; omega
    simpa [storeVar, sizeOf, typeInfo, hq, Value.cells, hs] using this

def Held8 (N x0 x1 x2 x3 y0 y1 y2 y3 : Nat) (w' : World) : Prop := w'.cell? ⟨N, 0, none⟩ = some (.int .u64 (x0 : Int)) ∧ w'.cell? ⟨N, 1, none⟩ = some (.int .u64 (x1 : Int)) ∧ w'.cell? ⟨N, 2, none⟩ = some (.int .u64 (x2 : Int)) ∧ w'.cell? ⟨N, 3, none⟩ = some (.int .u64 (x3 : Int)) ∧ w'.cell? ⟨N + 1, 0, none⟩ = some (.int .u64 (y0 : Int)) ∧ w'.cell? ⟨N + 1, 1, none⟩ = some (.int .u64 (y1 : Int)) ∧ w'.cell? ⟨N + 1, 2, none⟩ = some (.int .u64 (y2 : Int)) ∧ w'.cell? ⟨N + 1, 3, none⟩ = some (.int .u64 (y3 : Int))
theorem held8_below {N x0 x1 x2 x3 y0 y1 y2 y3 B : Nat} {W W' : World} (h : Held8 N x0 x1 x2 x3 y0 y1 y2 y3 W) (h1 : N + 1 < B) (hb : Below B W W') : Held8 N x0 x1 x2 x3 y0 y1 y2 y3 W' := by
  obtain ⟨g0, g1, g2, g3, g4, g5, g6, g7⟩ := h
  exact ⟨(hb.cell (by simp only; omega)).trans g0, (hb.cell (by simp only; omega)).trans g1, (hb.cell (by simp only; omega)).trans g2, (hb.cell (by simp only; omega)).trans g3, (hb.cell (by simp only; omega)).trans g4, (hb.cell (by simp only; omega)).trans g5, (hb.cell (by simp only; omega)).trans g6, (hb.cell (by simp only; omega)).trans g7⟩
theorem held8_alloc {N x0 x1 x2 x3 y0 y1 y2 y3 : Nat} {W : World} (O : Obj) (h : Held8 N x0 x1 x2 x3 y0 y1 y2 y3 W) (h1 : N + 1 < W.heap.size) : Held8 N x0 x1 x2 x3 y0 y1 y2 y3 (W.alloc O) := held8_below h h1 ((Below.refl _ _).alloc (Nat.le_refl _) _)
theorem held8_cells {N x0 x1 x2 x3 y0 y1 y2 y3 : Nat} {W : World} (g : Nat) (vs : List Value) (h : Held8 N x0 x1 x2 x3 y0 y1 y2 y3 W) (h1 : N + 1 < g) : Held8 N x0 x1 x2 x3 y0 y1 y2 y3 (W.setCells g 0 vs) := by
  have k : ∀ (b j : Nat), b < g → (W.setCells g 0 vs).cell? ⟨b, j, none⟩ = W.cell? ⟨b, j, none⟩ := fun b j hb => World.cell?_setCells_out g vs 0 W ⟨b, j, none⟩ (fun e => absurd e (by simp only; omega))
  obtain ⟨g0, g1, g2, g3, g4, g5, g6, g7⟩ := h
  exact ⟨(k _ _ (by omega)).trans g0, (k _ _ (by omega)).trans g1, (k _ _ (by omega)).trans g2, (k _ _ (by omega)).trans g3, (k _ _ (by omega)).trans g4, (k _ _ (by omega)).trans g5, (k _ _ (by omega)).trans g6, (k _ _ (by omega)).trans g7⟩
theorem rowd {W W' : World} {n : Nat} {x : Obj} (h : W.heap[n]? = some x) (hb : Below W.drew.heap.size W.drew W') : W'.heap[n]? = some x := row_below (W := W.drew) h hb
theorem there_row {W : World} {g : Nat} (h : RowB W g) : W.there g 0 256 := by
  obtain ⟨C, h1, h2⟩ := h
  intro j hj
  rw [Nat.zero_add]
  refine ⟨?_, frozen_of_row _ _ _ _ _ h1⟩
  rw [cell_of_row _ _ _ _ _ _ h1, Array.getElem?_eq_getElem (by omega)]
  rfl
theorem at_keep {w : World} {o x : Obj} {n : Nat} (k : w.heap[n]? = some x) : (w.alloc o).heap[n]? = some x := at_old (lt_of_block k) k
/-- What lies there when both rows have been put. -/
theorem two_put {X : World} {g7 g8 : Nat} (LA LB : Array Value) (hA1 : LA.size = 256) (hB1 : LB.size = 256) (h7 : X.there g7 0 256) (h8 : X.there g8 0 256) (hne : g7 ≠ g8) :
    (∀ i, i < 256 → ((X.setCells g7 0 LA.toList).setCells g8 0 LB.toList).cell? ⟨g7, i, none⟩ = LA[i]?) ∧ (∀ i, i < 256 → ((X.setCells g7 0 LA.toList).setCells g8 0 LB.toList).cell? ⟨g8, i, none⟩ = LB[i]?) := by
  have lA : LA.toList.length = 256 := by simpa using hA1
  have lB : LB.toList.length = 256 := by simpa using hB1
  constructor
  · intro i hi
    rw [World.cell?_setCells_out g8 LB.toList 0 _ ⟨g7, i, none⟩ (fun e => absurd e hne)]
    have := World.cell?_setCells_in g7 LA.toList 0 X (fun j hj => (h7 j (by omega)).1) i (by omega)
    rw [Nat.zero_add] at this
    rw [this, Array.getElem?_eq_getElem (by omega)]
    simp
  · intro i hi
    have := World.cell?_setCells_in g8 LB.toList 0 (X.setCells g7 0 LA.toList) (fun j hj => (World.there_setCells h8 _ _ _ j (by omega)).1) i (by omega)
    rw [Nat.zero_add] at this
    rw [this, Array.getElem?_eq_getElem (by omega)]
    simp
theorem below_cells {B : Nat} {a : World} (b : Nat) (hB : B ≤ b) : ∀ (vs : List Value) (o : Nat) (w : World), Below B a w → Below B a (w.setCells b o vs)
  | [], _, _, h => h
  | v :: r, o, _, h => below_cells b hB r (o + 1) _ (h.setCell (p := ⟨b, o, none⟩) hB v)
theorem heap_cells (b k : Nat) (hne : k ≠ b) : ∀ (vs : List Value) (o : Nat) (w : World), (w.setCells b o vs).heap[k]? = w.heap[k]?
  | [], _, _ => rfl
  | _ :: r, o, _ => (heap_cells b k hne r (o + 1) _).trans (heap_setCell_other _ _ _ _ hne)

set_option maxHeartbeats 400000 in
theorem clos_1 (u v : Bool) (w : World) : Calls Try.prog 16 #[.bool u, .bool v] w fun e w' => e = .returned (.bool (u || v)) ∧ w' = w := by
  cases u <;> cases v
  all_goals go_enter Try.func16, Try.ntmps16
  all_goals go_wp2
  all_goals go_ret
  all_goals exact ⟨rfl, rfl⟩
set_option maxHeartbeats 400000 in
theorem clos_2 (u v : Bool) (w : World) : Calls Try.prog 18 #[.bool u, .bool v] w fun e w' => e = .returned (.bool (u && v)) ∧ w' = w := by
  cases u <;> cases v
  all_goals go_enter Try.func18, Try.ntmps18
  all_goals go_wp2
  all_goals go_ret
  all_goals exact ⟨rfl, rfl⟩
set_option maxHeartbeats 400000 in
theorem clos_3 (u v : Bool) (w : World) : Calls Try.prog 20 #[.bool u, .bool v] w fun e w' => e = .returned (.bool (u && !v)) ∧ w' = w := by
  cases u <;> cases v
  all_goals go_enter Try.func20, Try.ntmps20
  all_goals go_wp2
  all_goals go_ret
  all_goals exact ⟨rfl, rfl⟩
set_option maxHeartbeats 400000 in
theorem clos_4 (u v : Bool) (w : World) : Calls Try.prog 22 #[.bool u, .bool v] w fun e w' => e = .returned (.bool (!u)) ∧ w' = w := by
  cases u <;> cases v
  all_goals go_enter Try.func22, Try.ntmps22
  all_goals go_wp2
  all_goals go_ret
  all_goals exact ⟨rfl, rfl⟩
end Go.Proofs.Ytgamnhmkimonnaa
