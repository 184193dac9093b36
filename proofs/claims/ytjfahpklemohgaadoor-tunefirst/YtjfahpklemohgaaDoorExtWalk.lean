/- How few and how many bytes: tune.Length's own reckoning. -/
import Derived.Test.YtjfahpklemohgaaDoorExtPlain
import Derived.Test.YtjfahpklemohgaaDoorPatWrong
import Derived.Laws.ResultCell
import Derived.Deep.QuietTactic
import Derived.BigQuiet
namespace Go.Proofs.YtjfahpklemohgaaDoor
open Go.RowKit

def exV (e : Ex) : Value := .agg #[.bool e.1, .int .i64 e.2.1, .int .i64 e.2.2]
theorem size_extent : (Tryd.prog.info? 62).map (·.size) = some 3 := by kernel_rfl
def ex3 (v0 v1 v2 : Value) : Obj := .cells #[v0, v1, v2] 62 (0, 0)

set_option maxRecDepth 100000 in
set_option maxHeartbeats 1000000 in
theorem just_any (n : Int) (w : World) : Calls Tryd.prog 38 #[.int .i64 n] w fun e w' => e = .returned (exV (true, n, n)) ∧ Below w.heap.size w w' := by
  unfold exV
  go_enter Tryd.func38, Tryd.ntmps38
  go_wp2_with fail
  exact bodyPost_ret (results_cell_row rfl _ _ w.heap.size 62 #[.bool true, .int .i64 n, .int .i64 n] (0, 0) _ rfl (at_new rfl) Tryd.underlying62 rfl size_extent) rfl ⟨rfl, (Below.refl _ _).alloc (Nat.le_refl _) _⟩

def set3 (w : World) (z : Nat) (v0 v1 v2 : Value) : World := ((w.setCell ⟨z, 0, none⟩ v0).setCell ⟨z, 1, none⟩ v1).setCell ⟨z, 2, none⟩ v2
theorem set3_row {w : World} {z : Nat} {c0 c1 c2 : Value} (h : w.heap[z]? = some (ex3 c0 c1 c2)) (v0 v1 v2 : Value) : (set3 w z v0 v1 v2).heap[z]? = some (ex3 v0 v1 v2) := by
  have h0 : (w.setCell ⟨z, 0, none⟩ v0).heap[z]? = some (ex3 v0 c1 c2) := heap_setCell_same _ z 0 _ _ v0 h
  have h1 : ((w.setCell ⟨z, 0, none⟩ v0).setCell ⟨z, 1, none⟩ v1).heap[z]? = some (ex3 v0 v1 c2) := heap_setCell_same _ z 1 _ _ v1 h0
  exact heap_setCell_same _ z 2 _ _ v2 h1
theorem set3_below {a w : World} (h : Below a.heap.size a w) {z : Nat} (hz : a.heap.size ≤ z) (v0 v1 v2 : Value) : Below a.heap.size a (set3 w z v0 v1 v2) :=
  But.below h ((((But.refl z w).setCell 0 v0).setCell 1 v1).setCell 2 v2) hz
theorem ex3_held {w : World} {z : Nat} {c0 c1 c2 : Value} (h : w.heap[z]? = some (ex3 c0 c1 c2)) :
    (w.cell? ⟨z, 0, none⟩ = some c0 ∧ w.cell? ⟨z, 1, none⟩ = some c1 ∧ w.cell? ⟨z, 2, none⟩ = some c2) ∧ w.frozen? ⟨z, 0, none⟩ = false ∧ w.frozen? ⟨z, 1, none⟩ = false ∧ w.frozen? ⟨z, 2, none⟩ = false :=
  ⟨⟨(cell_of_row w _ _ _ _ _ h).trans rfl, (cell_of_row w _ _ _ _ _ h).trans rfl, (cell_of_row w _ _ _ _ _ h).trans rfl⟩, frozen_of_row w z 0 _ _ h, frozen_of_row w z 1 _ _ h, frozen_of_row w z 2 _ _ h⟩

theorem at_keep3 {w : World} {z : Nat} {x o : Obj} (h : w.heap[z]? = some x) : (w.alloc o).heap[z]? = some x := at_old (Array.getElem?_eq_some_iff.1 h).1 h
theorem acc_kept {w2 : World} {z y : Nat} {p q r c0 c1 c2 : Value} (hz : w2.heap[z]? = some (ex3 p q r)) (hy : w2.heap[y]? = some (ex3 c0 c1 c2)) (hne : ¬ z = y) (v1 v2 : Value) (o : Obj) :
    (((w2.setCell ⟨y, 1, none⟩ v1).setCell ⟨y, 2, none⟩ v2).alloc o).heap[z]? = some (ex3 p q r) ∧ (((w2.setCell ⟨y, 1, none⟩ v1).setCell ⟨y, 2, none⟩ v2).alloc o).heap[y]? = some (ex3 c0 v1 v2) := by
  have h1 : (w2.setCell ⟨y, 1, none⟩ v1).heap[y]? = some (ex3 c0 v1 c2) := heap_setCell_same _ y 1 _ _ v1 hy
  have h2 : ((w2.setCell ⟨y, 1, none⟩ v1).setCell ⟨y, 2, none⟩ v2).heap[y]? = some (ex3 c0 v1 v2) := heap_setCell_same _ y 2 _ _ v2 h1
  exact ⟨((((But.refl y w2).setCell 1 v1).setCell 2 v2).alloc o).row hne hz, at_keep3 h2⟩
theorem acc_below {w w2 : World} (h : Below w.heap.size w w2) {y : Nat} (hy : w.heap.size ≤ y) (v1 v2 : Value) (o : Obj) : Below w.heap.size w (((w2.setCell ⟨y, 1, none⟩ v1).setCell ⟨y, 2, none⟩ v2).alloc o) :=
  But.below h ((((But.refl y w2).setCell 1 v1).setCell 2 v2).alloc o) hy
theorem exCat_true {a b u1 u2 m : Int} (h1 : (b = -1 ∨ u2 = -1 ∨ 65536 < b + u2) → m = -1) (h2 : ¬ (b = -1 ∨ u2 = -1 ∨ 65536 < b + u2) → m = b + u2) :
    exCat (true, a, b) (true, u1, u2) = (true, (if 65537 < a + u1 then 65537 else a + u1), m) := by
  unfold exCat
  rw [if_neg (by simp)]
  have e1 : min (a + u1) 65537 = if 65537 < a + u1 then 65537 else a + u1 := by split <;> omega
  dsimp only
  rw [e1]
  by_cases h : b = -1 ∨ u2 = -1 ∨ 65536 < b + u2
  · rw [if_pos h, h1 h]
  · rw [if_neg h, h2 h]

theorem max_ite (b u : Int) : (if b < u then u else b) = max b u := by split <;> omega
theorem exAlt_true {a b u1 u2 m : Int} (h1 : (b = -1 ∨ u2 = -1) → m = -1) (h2 : ¬ (b = -1 ∨ u2 = -1) → m = max b u2) :
    exAlt (true, a, b) (true, u1, u2) = (true, (if u1 < a then u1 else a), m) := by
  unfold exAlt
  rw [if_neg (by simp), if_neg (by simp)]
  have e1 : min a u1 = if u1 < a then u1 else a := by split <;> omega
  dsimp only
  rw [e1]
  by_cases h : b = -1 ∨ u2 = -1
  · rw [if_pos h, h1 h]
  · rw [if_neg h, h2 h]

/-- What extentOf says of a pattern. -/
def ExtPost (x : Ex) (w : World) (e : Ending) (w' : World) : Prop := e = .returned (exV x) ∧ Below w.heap.size w w'
def ExtSays (T : PT) : Prop := ∀ w : World, T.In w → FineS T → Calls Tryd.prog 17 #[pv T] w (ExtPost T.ext w)
def CatSays (T : PT) : Prop := ∀ w : World, T.In w → FineS T → Calls Tryd.prog 39 #[.slice T.xa T.len T.cap] w (ExtPost (catTo (fun i => (T.kid i).ext) T.len) w)
def AltSays (T : PT) : Prop := ∀ w : World, T.In w → FineS T → Calls Tryd.prog 40 #[.slice T.xa T.len T.cap] w (ExtPost (altTo (fun i => (T.kid i).ext) T.len) w)

set_option maxRecDepth 100000 in
set_option maxHeartbeats 1000000 in
theorem ext_k1 (T : PT) (q : T.k = 1) (w : World) :
    Calls Tryd.prog 17 #[pv T] w (ExtPost T.ext w) := by
  have HX := hide (ext_1 (T := T) q)
  unfold pv
  rw [unhide HX, q]
  unfold ExtPost exV
  clear q
  go_enter Tryd.func17, Tryd.ntmps17
  go_wp2_with fail
  refine (just_any _ _).mono ?_
  rintro e w1 ⟨rfl, hb1⟩
  have HB := hide (bnext (((Below.refl w.heap.size w).alloc (Nat.le_refl _) _).alloc (by simp) _) hb1)
  have g1 : w1.heap[w.heap.size + 1]? = some (ex3 (.bool false) (.int .i64 0) (.int .i64 0)) := row_below (at_new (by simp)) hb1
  obtain ⟨⟨c0, c1, c2⟩, f0, f1, f2⟩ := ex3_held g1
  have HG := hide g1
  clear hb1 g1
  unfold exV
  go_wp2_with fail
  exact bodyPost_ret (results_cell_row rfl _ _ (w.heap.size + 1) 62 #[.bool true, .int .i64 ((T.t.size : Int)), .int .i64 ((T.t.size : Int))] (0, 0) _ rfl (set3_row (unhide HG) _ _ _) Tryd.underlying62 rfl size_extent) rfl ⟨rfl, set3_below (unhide HB) (by omega) _ _ _⟩

set_option maxRecDepth 100000 in
set_option maxHeartbeats 1000000 in
theorem ext_k2 (T : PT) (q : T.k = 2) (w : World) :
    Calls Tryd.prog 17 #[pv T] w (ExtPost T.ext w) := by
  have HX := hide (ext_2 (T := T) q)
  unfold pv
  rw [unhide HX, q]
  unfold ExtPost exV
  clear q
  go_enter Tryd.func17, Tryd.ntmps17
  go_wp2_with fail
  refine (just_any _ _).mono ?_
  rintro e w1 ⟨rfl, hb1⟩
  have HB := hide (bnext (((Below.refl w.heap.size w).alloc (Nat.le_refl _) _).alloc (by simp) _) hb1)
  have g1 : w1.heap[w.heap.size + 1]? = some (ex3 (.bool false) (.int .i64 0) (.int .i64 0)) := row_below (at_new (by simp)) hb1
  obtain ⟨⟨c0, c1, c2⟩, f0, f1, f2⟩ := ex3_held g1
  have HG := hide g1
  clear hb1 g1
  unfold exV
  go_wp2_with fail
  exact bodyPost_ret (results_cell_row rfl _ _ (w.heap.size + 1) 62 #[.bool true, .int .i64 (T.n), .int .i64 (T.n)] (0, 0) _ rfl (set3_row (unhide HG) _ _ _) Tryd.underlying62 rfl size_extent) rfl ⟨rfl, set3_below (unhide HB) (by omega) _ _ _⟩

set_option maxRecDepth 100000 in
set_option maxHeartbeats 1000000 in
theorem ext_k3 (T : PT) (q : T.k = 3) (w : World) :
    Calls Tryd.prog 17 #[pv T] w (ExtPost T.ext w) := by
  have HX := hide (ext_3 (T := T) (.inl q))
  unfold pv
  rw [unhide HX, q]
  unfold ExtPost exV
  clear q
  go_enter Tryd.func17, Tryd.ntmps17
  go_wp2_with fail
  refine (just_any _ _).mono ?_
  rintro e w1 ⟨rfl, hb1⟩
  have HB := hide (bnext (((Below.refl w.heap.size w).alloc (Nat.le_refl _) _).alloc (by simp) _) hb1)
  have g1 : w1.heap[w.heap.size + 1]? = some (ex3 (.bool false) (.int .i64 0) (.int .i64 0)) := row_below (at_new (by simp)) hb1
  obtain ⟨⟨c0, c1, c2⟩, f0, f1, f2⟩ := ex3_held g1
  have HG := hide g1
  clear hb1 g1
  unfold exV
  go_wp2_with fail
  exact bodyPost_ret (results_cell_row rfl _ _ (w.heap.size + 1) 62 #[.bool true, .int .i64 (1), .int .i64 (1)] (0, 0) _ rfl (set3_row (unhide HG) _ _ _) Tryd.underlying62 rfl size_extent) rfl ⟨rfl, set3_below (unhide HB) (by omega) _ _ _⟩

set_option maxRecDepth 100000 in
set_option maxHeartbeats 1000000 in
theorem ext_k4 (T : PT) (q : T.k = 4) (w : World) :
    Calls Tryd.prog 17 #[pv T] w (ExtPost T.ext w) := by
  have HX := hide (ext_3 (T := T) (.inr q))
  unfold pv
  rw [unhide HX, q]
  unfold ExtPost exV
  clear q
  go_enter Tryd.func17, Tryd.ntmps17
  go_wp2_with fail
  refine (just_any _ _).mono ?_
  rintro e w1 ⟨rfl, hb1⟩
  have HB := hide (bnext (((Below.refl w.heap.size w).alloc (Nat.le_refl _) _).alloc (by simp) _) hb1)
  have g1 : w1.heap[w.heap.size + 1]? = some (ex3 (.bool false) (.int .i64 0) (.int .i64 0)) := row_below (at_new (by simp)) hb1
  obtain ⟨⟨c0, c1, c2⟩, f0, f1, f2⟩ := ex3_held g1
  have HG := hide g1
  clear hb1 g1
  unfold exV
  go_wp2_with fail
  exact bodyPost_ret (results_cell_row rfl _ _ (w.heap.size + 1) 62 #[.bool true, .int .i64 (1), .int .i64 (1)] (0, 0) _ rfl (set3_row (unhide HG) _ _ _) Tryd.underlying62 rfl size_extent) rfl ⟨rfl, set3_below (unhide HB) (by omega) _ _ _⟩

set_option maxRecDepth 100000 in
set_option maxHeartbeats 1000000 in
theorem ext_k10 (T : PT) (q : T.k = 10) (w : World) :
    Calls Tryd.prog 17 #[pv T] w (ExtPost T.ext w) := by
  have HX := hide (ext_10 (T := T) (by omega))
  unfold pv
  rw [unhide HX, q]
  unfold ExtPost exV
  clear q
  go_enter Tryd.func17, Tryd.ntmps17
  go_wp2_with fail
  refine (just_any _ _).mono ?_
  rintro e w1 ⟨rfl, hb1⟩
  have HB := hide (bnext (((Below.refl w.heap.size w).alloc (Nat.le_refl _) _).alloc (by simp) _) hb1)
  have g1 : w1.heap[w.heap.size + 1]? = some (ex3 (.bool false) (.int .i64 0) (.int .i64 0)) := row_below (at_new (by simp)) hb1
  obtain ⟨⟨c0, c1, c2⟩, f0, f1, f2⟩ := ex3_held g1
  have HG := hide g1
  clear hb1 g1
  unfold exV
  go_wp2_with fail
  exact bodyPost_ret (results_cell_row rfl _ _ (w.heap.size + 1) 62 #[.bool true, .int .i64 (0), .int .i64 (0)] (0, 0) _ rfl (set3_row (unhide HG) _ _ _) Tryd.underlying62 rfl size_extent) rfl ⟨rfl, set3_below (unhide HB) (by omega) _ _ _⟩

set_option maxRecDepth 100000 in
set_option maxHeartbeats 1000000 in
theorem ext_k11 (T : PT) (q : T.k = 11) (w : World) :
    Calls Tryd.prog 17 #[pv T] w (ExtPost T.ext w) := by
  have HX := hide (ext_10 (T := T) (by omega))
  unfold pv
  rw [unhide HX, q]
  unfold ExtPost exV
  clear q
  go_enter Tryd.func17, Tryd.ntmps17
  go_wp2_with fail
  refine (just_any _ _).mono ?_
  rintro e w1 ⟨rfl, hb1⟩
  have HB := hide (bnext (((Below.refl w.heap.size w).alloc (Nat.le_refl _) _).alloc (by simp) _) hb1)
  have g1 : w1.heap[w.heap.size + 1]? = some (ex3 (.bool false) (.int .i64 0) (.int .i64 0)) := row_below (at_new (by simp)) hb1
  obtain ⟨⟨c0, c1, c2⟩, f0, f1, f2⟩ := ex3_held g1
  have HG := hide g1
  clear hb1 g1
  unfold exV
  go_wp2_with fail
  exact bodyPost_ret (results_cell_row rfl _ _ (w.heap.size + 1) 62 #[.bool true, .int .i64 (0), .int .i64 (0)] (0, 0) _ rfl (set3_row (unhide HG) _ _ _) Tryd.underlying62 rfl size_extent) rfl ⟨rfl, set3_below (unhide HB) (by omega) _ _ _⟩

set_option maxRecDepth 100000 in
set_option maxHeartbeats 1000000 in
theorem ext_k16 (T : PT) (q : T.k = 16) (w : World) :
    Calls Tryd.prog 17 #[pv T] w (ExtPost T.ext w) := by
  have HX := hide (ext_10 (T := T) (by omega))
  unfold pv
  rw [unhide HX, q]
  unfold ExtPost exV
  clear q
  go_enter Tryd.func17, Tryd.ntmps17
  go_wp2_with fail
  refine (just_any _ _).mono ?_
  rintro e w1 ⟨rfl, hb1⟩
  have HB := hide (bnext (((Below.refl w.heap.size w).alloc (Nat.le_refl _) _).alloc (by simp) _) hb1)
  have g1 : w1.heap[w.heap.size + 1]? = some (ex3 (.bool false) (.int .i64 0) (.int .i64 0)) := row_below (at_new (by simp)) hb1
  obtain ⟨⟨c0, c1, c2⟩, f0, f1, f2⟩ := ex3_held g1
  have HG := hide g1
  clear hb1 g1
  unfold exV
  go_wp2_with fail
  exact bodyPost_ret (results_cell_row rfl _ _ (w.heap.size + 1) 62 #[.bool true, .int .i64 (0), .int .i64 (0)] (0, 0) _ rfl (set3_row (unhide HG) _ _ _) Tryd.underlying62 rfl size_extent) rfl ⟨rfl, set3_below (unhide HB) (by omega) _ _ _⟩

set_option maxRecDepth 100000 in
set_option maxHeartbeats 1000000 in
theorem ext_k23 (T : PT) (q : T.k = 23) (w : World) :
    Calls Tryd.prog 17 #[pv T] w (ExtPost T.ext w) := by
  have HX := hide (ext_10 (T := T) (by omega))
  unfold pv
  rw [unhide HX, q]
  unfold ExtPost exV
  clear q
  go_enter Tryd.func17, Tryd.ntmps17
  go_wp2_with fail
  refine (just_any _ _).mono ?_
  rintro e w1 ⟨rfl, hb1⟩
  have HB := hide (bnext (((Below.refl w.heap.size w).alloc (Nat.le_refl _) _).alloc (by simp) _) hb1)
  have g1 : w1.heap[w.heap.size + 1]? = some (ex3 (.bool false) (.int .i64 0) (.int .i64 0)) := row_below (at_new (by simp)) hb1
  obtain ⟨⟨c0, c1, c2⟩, f0, f1, f2⟩ := ex3_held g1
  have HG := hide g1
  clear hb1 g1
  unfold exV
  go_wp2_with fail
  exact bodyPost_ret (results_cell_row rfl _ _ (w.heap.size + 1) 62 #[.bool true, .int .i64 (0), .int .i64 (0)] (0, 0) _ rfl (set3_row (unhide HG) _ _ _) Tryd.underlying62 rfl size_extent) rfl ⟨rfl, set3_below (unhide HB) (by omega) _ _ _⟩

set_option maxRecDepth 100000 in
set_option maxHeartbeats 1000000 in
theorem ext_k5 (T : PT) (q : T.k = 5) (w : World) :
    Calls Tryd.prog 17 #[pv T] w (ExtPost T.ext w) := by
  have HX := hide (ext_5 (T := T) (.inl q))
  unfold pv
  rw [unhide HX, q]
  unfold ExtPost exV
  clear q
  go_enter Tryd.func17, Tryd.ntmps17
  go_wp2_with fail
  exact bodyPost_ret (results_cell_row rfl _ _ (w.heap.size + 1) 62 #[.bool true, .int .i64 1, .int .i64 (-1)] (0, 0) _ rfl (at_new (by simp)) Tryd.underlying62 rfl size_extent) rfl ⟨rfl, ((Below.refl _ _).alloc (Nat.le_refl _) _).alloc (by simp) _⟩

set_option maxRecDepth 100000 in
set_option maxHeartbeats 1000000 in
theorem ext_k14 (T : PT) (q : T.k = 14) (w : World) :
    Calls Tryd.prog 17 #[pv T] w (ExtPost T.ext w) := by
  have HX := hide (ext_5 (T := T) (.inr q))
  unfold pv
  rw [unhide HX, q]
  unfold ExtPost exV
  clear q
  go_enter Tryd.func17, Tryd.ntmps17
  go_wp2_with fail
  exact bodyPost_ret (results_cell_row rfl _ _ (w.heap.size + 1) 62 #[.bool true, .int .i64 1, .int .i64 (-1)] (0, 0) _ rfl (at_new (by simp)) Tryd.underlying62 rfl size_extent) rfl ⟨rfl, ((Below.refl _ _).alloc (Nat.le_refl _) _).alloc (by simp) _⟩

set_option maxRecDepth 100000 in
set_option maxHeartbeats 1000000 in
theorem ext_k15 (T : PT) (q : T.k = 15) (w : World) :
    Calls Tryd.prog 17 #[pv T] w (ExtPost T.ext w) := by
  have HX := hide (ext_15 (T := T) (.inl q))
  unfold pv
  rw [unhide HX, q]
  unfold ExtPost exV
  unfold exNo
  clear q
  go_enter Tryd.func17, Tryd.ntmps17
  go_wp2_with fail
  exact bodyPost_ret (results_cell_row rfl _ _ (w.heap.size + 1) 62 #[.bool false, .int .i64 0, .int .i64 0] (0, 0) _ rfl (at_new (by simp)) Tryd.underlying62 rfl size_extent) rfl ⟨rfl, ((Below.refl _ _).alloc (Nat.le_refl _) _).alloc (by simp) _⟩

set_option maxRecDepth 100000 in
set_option maxHeartbeats 1000000 in
theorem ext_k17 (T : PT) (q : T.k = 17) (w : World) :
    Calls Tryd.prog 17 #[pv T] w (ExtPost T.ext w) := by
  have HX := hide (ext_15 (T := T) (.inr q))
  unfold pv
  rw [unhide HX, q]
  unfold ExtPost exV
  unfold exNo
  clear q
  go_enter Tryd.func17, Tryd.ntmps17
  go_wp2_with fail
  exact bodyPost_ret (results_cell_row rfl _ _ (w.heap.size + 1) 62 #[.bool false, .int .i64 0, .int .i64 0] (0, 0) _ rfl (at_new (by simp)) Tryd.underlying62 rfl size_extent) rfl ⟨rfl, ((Below.refl _ _).alloc (Nat.le_refl _) _).alloc (by simp) _⟩

set_option maxRecDepth 100000 in
set_option maxHeartbeats 1000000 in
theorem ext_k6 (T : PT) (q : T.k = 6) (w : World) :
    Calls Tryd.prog 17 #[pv T] w (ExtPost T.ext w) := by
  have HX := hide (ext_rest (T := T) (by omega))
  unfold pv
  rw [unhide HX, q]
  unfold ExtPost exV
  clear q
  go_enter Tryd.func17, Tryd.ntmps17
  go_wp2_with fail
  exact bodyPost_ret (results_cell_row rfl _ _ (w.heap.size + 1) 62 #[.bool true, .int .i64 0, .int .i64 (-1)] (0, 0) _ rfl (at_new (by simp)) Tryd.underlying62 rfl size_extent) rfl ⟨rfl, ((Below.refl _ _).alloc (Nat.le_refl _) _).alloc (by simp) _⟩

set_option maxRecDepth 100000 in
set_option maxHeartbeats 1000000 in
theorem ext_k7 (T : PT) (q : T.k = 7) (w : World) :
    Calls Tryd.prog 17 #[pv T] w (ExtPost T.ext w) := by
  have HX := hide (ext_rest (T := T) (by omega))
  unfold pv
  rw [unhide HX, q]
  unfold ExtPost exV
  clear q
  go_enter Tryd.func17, Tryd.ntmps17
  go_wp2_with fail
  exact bodyPost_ret (results_cell_row rfl _ _ (w.heap.size + 1) 62 #[.bool true, .int .i64 0, .int .i64 (-1)] (0, 0) _ rfl (at_new (by simp)) Tryd.underlying62 rfl size_extent) rfl ⟨rfl, ((Below.refl _ _).alloc (Nat.le_refl _) _).alloc (by simp) _⟩

set_option maxRecDepth 100000 in
set_option maxHeartbeats 1000000 in
theorem ext_k8 (T : PT) (q : T.k = 8) (w : World) :
    Calls Tryd.prog 17 #[pv T] w (ExtPost T.ext w) := by
  have HX := hide (ext_rest (T := T) (by omega))
  unfold pv
  rw [unhide HX, q]
  unfold ExtPost exV
  clear q
  go_enter Tryd.func17, Tryd.ntmps17
  go_wp2_with fail
  exact bodyPost_ret (results_cell_row rfl _ _ (w.heap.size + 1) 62 #[.bool true, .int .i64 0, .int .i64 (-1)] (0, 0) _ rfl (at_new (by simp)) Tryd.underlying62 rfl size_extent) rfl ⟨rfl, ((Below.refl _ _).alloc (Nat.le_refl _) _).alloc (by simp) _⟩

set_option maxRecDepth 100000 in
set_option maxHeartbeats 1000000 in
theorem ext_k9 (T : PT) (q : T.k = 9) (w : World) :
    Calls Tryd.prog 17 #[pv T] w (ExtPost T.ext w) := by
  have HX := hide (ext_rest (T := T) (by omega))
  unfold pv
  rw [unhide HX, q]
  unfold ExtPost exV
  clear q
  go_enter Tryd.func17, Tryd.ntmps17
  go_wp2_with fail
  exact bodyPost_ret (results_cell_row rfl _ _ (w.heap.size + 1) 62 #[.bool true, .int .i64 0, .int .i64 (-1)] (0, 0) _ rfl (at_new (by simp)) Tryd.underlying62 rfl size_extent) rfl ⟨rfl, ((Below.refl _ _).alloc (Nat.le_refl _) _).alloc (by simp) _⟩

set_option maxRecDepth 100000 in
set_option maxHeartbeats 1000000 in
theorem ext_k12 (T : PT) (q : T.k = 12) (w : World) :
    Calls Tryd.prog 17 #[pv T] w (ExtPost T.ext w) := by
  have HX := hide (ext_rest (T := T) (by omega))
  unfold pv
  rw [unhide HX, q]
  unfold ExtPost exV
  clear q
  go_enter Tryd.func17, Tryd.ntmps17
  go_wp2_with fail
  exact bodyPost_ret (results_cell_row rfl _ _ (w.heap.size + 1) 62 #[.bool true, .int .i64 0, .int .i64 (-1)] (0, 0) _ rfl (at_new (by simp)) Tryd.underlying62 rfl size_extent) rfl ⟨rfl, ((Below.refl _ _).alloc (Nat.le_refl _) _).alloc (by simp) _⟩

set_option maxRecDepth 100000 in
set_option maxHeartbeats 1000000 in
theorem ext_k13 (T : PT) (q : T.k = 13) (w : World) :
    Calls Tryd.prog 17 #[pv T] w (ExtPost T.ext w) := by
  have HX := hide (ext_rest (T := T) (by omega))
  unfold pv
  rw [unhide HX, q]
  unfold ExtPost exV
  clear q
  go_enter Tryd.func17, Tryd.ntmps17
  go_wp2_with fail
  exact bodyPost_ret (results_cell_row rfl _ _ (w.heap.size + 1) 62 #[.bool true, .int .i64 0, .int .i64 (-1)] (0, 0) _ rfl (at_new (by simp)) Tryd.underlying62 rfl size_extent) rfl ⟨rfl, ((Below.refl _ _).alloc (Nat.le_refl _) _).alloc (by simp) _⟩

set_option maxRecDepth 100000 in
set_option maxHeartbeats 1000000 in
theorem ext_k24 (T : PT) (q : T.k = 24) (w : World) :
    Calls Tryd.prog 17 #[pv T] w (ExtPost T.ext w) := by
  have HX := hide (ext_rest (T := T) (by omega))
  unfold pv
  rw [unhide HX, q]
  unfold ExtPost exV
  clear q
  go_enter Tryd.func17, Tryd.ntmps17
  go_wp2_with fail
  exact bodyPost_ret (results_cell_row rfl _ _ (w.heap.size + 1) 62 #[.bool true, .int .i64 0, .int .i64 (-1)] (0, 0) _ rfl (at_new (by simp)) Tryd.underlying62 rfl size_extent) rfl ⟨rfl, ((Below.refl _ _).alloc (Nat.le_refl _) _).alloc (by simp) _⟩

set_option maxRecDepth 100000 in
set_option maxHeartbeats 1000000 in
theorem ext_k18 (T : PT) (q : T.k = 18) (w : World) (hT : T.In w) (hF : FineS T) (hs : CatSays T) :
    Calls Tryd.prog 17 #[pv T] w (ExtPost T.ext w) := by
  have HX := hide (ext_18 (T := T) q)
  unfold pv
  rw [unhide HX, q]
  unfold ExtPost exV
  obtain ⟨x, hx⟩ : ∃ x, x = catTo (fun i => (T.kid i).ext) T.len := ⟨_, rfl⟩
  have H := hide (fun W (h : Below w.heap.size w W) => hs W (PT.In.later h hT) hF)
  rw [← hx] at H ⊢
  clear q hT hF hs hx HX
  go_enter Tryd.func17, Tryd.ntmps17
  go_wp2_with fail
  refine (unhide H _ (((Below.refl w.heap.size w).alloc (Nat.le_refl _) _).alloc (by simp) _)).mono ?_
  rintro e w1 ⟨rfl, hb1⟩
  have HB := hide (bnext (((Below.refl w.heap.size w).alloc (Nat.le_refl _) _).alloc (by simp) _) hb1)
  have g1 : w1.heap[w.heap.size + 1]? = some (ex3 (.bool false) (.int .i64 0) (.int .i64 0)) := row_below (at_new (by simp)) hb1
  obtain ⟨⟨c0, c1, c2⟩, f0, f1, f2⟩ := ex3_held g1
  have HG := hide g1
  clear hb1 g1
  unfold exV
  go_wp2_with fail
  exact bodyPost_ret (results_cell_row rfl _ _ (w.heap.size + 1) 62 #[.bool x.1, .int .i64 x.2.1, .int .i64 x.2.2] (0, 0) _ rfl (set3_row (unhide HG) _ _ _) Tryd.underlying62 rfl size_extent) rfl ⟨rfl, set3_below (unhide HB) (by omega) _ _ _⟩

set_option maxRecDepth 100000 in
set_option maxHeartbeats 1000000 in
theorem ext_k19 (T : PT) (q : T.k = 19) (w : World) (hT : T.In w) (hF : FineS T) (hs : AltSays T) :
    Calls Tryd.prog 17 #[pv T] w (ExtPost T.ext w) := by
  have HX := hide (ext_19 (T := T) q)
  unfold pv
  rw [unhide HX, q]
  unfold ExtPost exV
  obtain ⟨x, hx⟩ : ∃ x, x = altTo (fun i => (T.kid i).ext) T.len := ⟨_, rfl⟩
  have H := hide (fun W (h : Below w.heap.size w W) => hs W (PT.In.later h hT) hF)
  rw [← hx] at H ⊢
  clear q hT hF hs hx HX
  go_enter Tryd.func17, Tryd.ntmps17
  go_wp2_with fail
  refine (unhide H _ (((Below.refl w.heap.size w).alloc (Nat.le_refl _) _).alloc (by simp) _)).mono ?_
  rintro e w1 ⟨rfl, hb1⟩
  have HB := hide (bnext (((Below.refl w.heap.size w).alloc (Nat.le_refl _) _).alloc (by simp) _) hb1)
  have g1 : w1.heap[w.heap.size + 1]? = some (ex3 (.bool false) (.int .i64 0) (.int .i64 0)) := row_below (at_new (by simp)) hb1
  obtain ⟨⟨c0, c1, c2⟩, f0, f1, f2⟩ := ex3_held g1
  have HG := hide g1
  clear hb1 g1
  unfold exV
  go_wp2_with fail
  exact bodyPost_ret (results_cell_row rfl _ _ (w.heap.size + 1) 62 #[.bool x.1, .int .i64 x.2.1, .int .i64 x.2.2] (0, 0) _ rfl (set3_row (unhide HG) _ _ _) Tryd.underlying62 rfl size_extent) rfl ⟨rfl, set3_below (unhide HB) (by omega) _ _ _⟩

set_option maxRecDepth 100000 in
set_option maxHeartbeats 1000000 in
theorem ext_k21 (T : PT) (q : T.k = 21) (w : World) (hT : T.In w) (hF : FineS T) (ih : ExtSays (T.kid 0)) :
    Calls Tryd.prog 17 #[pv T] w (ExtPost T.ext w) := by
  have HX := hide (ext_21 (T := T) (.inl q) (hF.ok.2.2.2.2 (by omega)))
  unfold pv
  rw [unhide HX, q]
  unfold ExtPost exV
  have hl := hF.ok.2.2.2.2 (by omega)
  obtain ⟨U, hU⟩ : ∃ U, U = T.kid 0 := ⟨_, rfl⟩
  have H := hide (fun W (h : Below w.heap.size w W) => ih W (PT.In.later h (hT.kids (by omega))) (hF.kid (by omega)))
  have hia : ∀ W, (Instr.indexAt 23 (.slice T.xa T.len T.cap) (.int .i64 0)).run Tryd.prog W = .ok (.pointer (some ⟨T.b, T.o, none⟩)) W := fun W => by
    have := kid_at hT (k := 0) (by omega) W
    simpa using this
  obtain ⟨k0, k1, k2, k3, k4⟩ := hT.cells (i := 0) (by omega)
  rw [← hU] at H k0 k1 k2 k3 k4 ⊢
  unfold PT.kv at k4
  unfold pv at H
  rw [hl] at hia ⊢
  have hW : Below w.heap.size w ((w.alloc (.cells #[.int .i64 21, .string T.t, .int .i64 T.n, .string T.nm, .slice T.xa 1 T.cap] 25)).alloc (ex3 (.bool false) (.int .i64 0) (.int .i64 0))) := ((Below.refl w.heap.size w).alloc (Nat.le_refl _) _).alloc (by simp) _
  have k0 := cell_later hW k0
  have k1 := cell_later hW k1
  have k2 := cell_later hW k2
  have k3 := cell_later hW k3
  have k4 := cell_later hW k4
  unfold ex3 at k0 k1 k2 k3 k4
  simp only [Nat.zero_mul, Nat.add_zero] at k0 k1 k2 k3 k4
  have HW := hide hW
  clear q hT hF ih hU hW HX hl
  go_enter Tryd.func17, Tryd.ntmps17
  go_wp2_with fail
  refine (unhide H _ (unhide HW)).mono ?_
  rintro e w1 ⟨rfl, hb1⟩
  have HB := hide (bnext (((Below.refl w.heap.size w).alloc (Nat.le_refl _) _).alloc (by simp) _) hb1)
  have g1 : w1.heap[w.heap.size + 1]? = some (ex3 (.bool false) (.int .i64 0) (.int .i64 0)) := row_below (at_new (by simp)) hb1
  obtain ⟨⟨c0, c1, c2⟩, f0, f1, f2⟩ := ex3_held g1
  have HG := hide g1
  clear hb1 g1
  unfold exV
  go_wp2_with fail
  exact bodyPost_ret (results_cell_row rfl _ _ (w.heap.size + 1) 62 #[.bool U.ext.1, .int .i64 U.ext.2.1, .int .i64 U.ext.2.2] (0, 0) _ rfl (set3_row (unhide HG) _ _ _) Tryd.underlying62 rfl size_extent) rfl ⟨rfl, set3_below (unhide HB) (by omega) _ _ _⟩

set_option maxRecDepth 100000 in
set_option maxHeartbeats 1000000 in
theorem ext_k22 (T : PT) (q : T.k = 22) (w : World) (hT : T.In w) (hF : FineS T) (ih : ExtSays (T.kid 0)) :
    Calls Tryd.prog 17 #[pv T] w (ExtPost T.ext w) := by
  have HX := hide (ext_21 (T := T) (.inr q) (hF.ok.2.2.2.2 (by omega)))
  unfold pv
  rw [unhide HX, q]
  unfold ExtPost exV
  have hl := hF.ok.2.2.2.2 (by omega)
  obtain ⟨U, hU⟩ : ∃ U, U = T.kid 0 := ⟨_, rfl⟩
  have H := hide (fun W (h : Below w.heap.size w W) => ih W (PT.In.later h (hT.kids (by omega))) (hF.kid (by omega)))
  have hia : ∀ W, (Instr.indexAt 23 (.slice T.xa T.len T.cap) (.int .i64 0)).run Tryd.prog W = .ok (.pointer (some ⟨T.b, T.o, none⟩)) W := fun W => by
    have := kid_at hT (k := 0) (by omega) W
    simpa using this
  obtain ⟨k0, k1, k2, k3, k4⟩ := hT.cells (i := 0) (by omega)
  rw [← hU] at H k0 k1 k2 k3 k4 ⊢
  unfold PT.kv at k4
  unfold pv at H
  rw [hl] at hia ⊢
  have hW : Below w.heap.size w ((w.alloc (.cells #[.int .i64 22, .string T.t, .int .i64 T.n, .string T.nm, .slice T.xa 1 T.cap] 25)).alloc (ex3 (.bool false) (.int .i64 0) (.int .i64 0))) := ((Below.refl w.heap.size w).alloc (Nat.le_refl _) _).alloc (by simp) _
  have k0 := cell_later hW k0
  have k1 := cell_later hW k1
  have k2 := cell_later hW k2
  have k3 := cell_later hW k3
  have k4 := cell_later hW k4
  unfold ex3 at k0 k1 k2 k3 k4
  simp only [Nat.zero_mul, Nat.add_zero] at k0 k1 k2 k3 k4
  have HW := hide hW
  clear q hT hF ih hU hW HX hl
  go_enter Tryd.func17, Tryd.ntmps17
  go_wp2_with fail
  refine (unhide H _ (unhide HW)).mono ?_
  rintro e w1 ⟨rfl, hb1⟩
  have HB := hide (bnext (((Below.refl w.heap.size w).alloc (Nat.le_refl _) _).alloc (by simp) _) hb1)
  have g1 : w1.heap[w.heap.size + 1]? = some (ex3 (.bool false) (.int .i64 0) (.int .i64 0)) := row_below (at_new (by simp)) hb1
  obtain ⟨⟨c0, c1, c2⟩, f0, f1, f2⟩ := ex3_held g1
  have HG := hide g1
  clear hb1 g1
  unfold exV
  go_wp2_with fail
  exact bodyPost_ret (results_cell_row rfl _ _ (w.heap.size + 1) 62 #[.bool U.ext.1, .int .i64 U.ext.2.1, .int .i64 U.ext.2.2] (0, 0) _ rfl (set3_row (unhide HG) _ _ _) Tryd.underlying62 rfl size_extent) rfl ⟨rfl, set3_below (unhide HB) (by omega) _ _ _⟩

set_option maxRecDepth 100000 in
set_option maxHeartbeats 1000000 in
theorem ext_k20 (T : PT) (q : T.k = 20) (w : World) (hT : T.In w) (hF : FineS T) (ih : ExtSays (T.kid 0)) :
    Calls Tryd.prog 17 #[pv T] w (ExtPost T.ext w) := by
  have HX := hide (ext_20 (T := T) q (hF.ok.2.2.2.2 (by omega)))
  unfold pv
  rw [unhide HX, q]
  unfold ExtPost
  have hl := hF.ok.2.2.2.2 (by omega)
  obtain ⟨U, hU⟩ : ∃ U, U = T.kid 0 := ⟨_, rfl⟩
  have H := hide (fun W (h : Below w.heap.size w W) => ih W (PT.In.later h (hT.kids (by omega))) (hF.kid (by omega)))
  have hia : ∀ W, (Instr.indexAt 23 (.slice T.xa T.len T.cap) (.int .i64 0)).run Tryd.prog W = .ok (.pointer (some ⟨T.b, T.o, none⟩)) W := fun W => by
    have := kid_at hT (k := 0) (by omega) W
    simpa using this
  obtain ⟨k0, k1, k2, k3, k4⟩ := hT.cells (i := 0) (by omega)
  rw [← hU] at H k0 k1 k2 k3 k4 ⊢
  unfold PT.kv at k4
  unfold pv at H
  rw [hl] at hia ⊢
  have hW : Below w.heap.size w ((w.alloc (.cells #[.int .i64 20, .string T.t, .int .i64 T.n, .string T.nm, .slice T.xa 1 T.cap] 25)).alloc (ex3 (.bool false) (.int .i64 0) (.int .i64 0))) := ((Below.refl w.heap.size w).alloc (Nat.le_refl _) _).alloc (by simp) _
  have k0 := cell_later hW k0
  have k1 := cell_later hW k1
  have k2 := cell_later hW k2
  have k3 := cell_later hW k3
  have k4 := cell_later hW k4
  unfold ex3 at k0 k1 k2 k3 k4
  simp only [Nat.zero_mul, Nat.add_zero] at k0 k1 k2 k3 k4
  have HW := hide hW
  obtain ⟨x, hx⟩ : ∃ x, x = U.ext := ⟨_, rfl⟩
  rw [← hx] at H ⊢
  clear hx
  clear q hT hF ih hU hW HX hl
  obtain ⟨x0, x1, x2⟩ := x
  dsimp only
  cases x0 with
  | false =>
    rw [if_pos (.inl rfl)]
    unfold exV
    go_enter Tryd.func17, Tryd.ntmps17
    go_wp2_with fail
    refine (unhide H _ (unhide HW)).mono ?_
    rintro e w1 ⟨rfl, hb1⟩
    have HB := hide (bnext (unhide HW) hb1)
    have g1 : w1.heap[w.heap.size + 1]? = some (ex3 (.bool false) (.int .i64 0) (.int .i64 0)) := row_below (at_new (by simp)) hb1
    have hlt : w.heap.size + 1 < w1.heap.size := (Array.getElem?_eq_some_iff.1 g1).1
    have hne1 : ¬ w.heap.size + 1 = w1.heap.size := by omega
    have hne2 : ¬ w1.heap.size = w.heap.size + 1 := by omega
    obtain ⟨⟨c0, c1, c2⟩, f0, f1, f2⟩ := ex3_held g1
    have HG := hide g1
    clear hb1 g1
    unfold exV
    go_wp2_with fail
    refine (just_any _ _).mono ?_
    rintro e w2 ⟨rfl, hb2⟩
    have HB2 := hide (bnext ((unhide HB).alloc (by omega) _) hb2)
    have g2 : w2.heap[w.heap.size + 1]? = some (ex3 (.bool false) (.int .i64 0) (.int .i64 0)) := row_below (at_old hlt (unhide HG)) hb2
    clear c0 c1 c2 f0 f1 f2
    obtain ⟨⟨c0, c1, c2⟩, f0, f1, f2⟩ := ex3_held g2
    have HG2 := hide g2
    clear hb2 g2
    unfold exV
    go_wp2_with fail
    exact bodyPost_ret (results_cell_row rfl _ _ (w.heap.size + 1) 62 #[.bool true, .int .i64 0, .int .i64 0] (0, 0) _ rfl (set3_row (unhide HG2) _ _ _) Tryd.underlying62 rfl size_extent) rfl ⟨rfl, set3_below (unhide HB2) (by omega) _ _ _⟩
  | true =>
    by_cases hz : x2 = 0
    · subst hz
      rw [if_pos (.inr rfl)]
      unfold exV
      go_enter Tryd.func17, Tryd.ntmps17
      go_wp2_with fail
      refine (unhide H _ (unhide HW)).mono ?_
      rintro e w1 ⟨rfl, hb1⟩
      have HB := hide (bnext (unhide HW) hb1)
      have g1 : w1.heap[w.heap.size + 1]? = some (ex3 (.bool false) (.int .i64 0) (.int .i64 0)) := row_below (at_new (by simp)) hb1
      have hlt : w.heap.size + 1 < w1.heap.size := (Array.getElem?_eq_some_iff.1 g1).1
      have hne1 : ¬ w.heap.size + 1 = w1.heap.size := by omega
      have hne2 : ¬ w1.heap.size = w.heap.size + 1 := by omega
      obtain ⟨⟨c0, c1, c2⟩, f0, f1, f2⟩ := ex3_held g1
      have HG := hide g1
      clear hb1 g1
      unfold exV
      go_wp2_with fail
      refine (just_any _ _).mono ?_
      rintro e w2 ⟨rfl, hb2⟩
      have HB2 := hide (bnext ((unhide HB).alloc (by omega) _) hb2)
      have g2 : w2.heap[w.heap.size + 1]? = some (ex3 (.bool false) (.int .i64 0) (.int .i64 0)) := row_below (at_old hlt (unhide HG)) hb2
      clear c0 c1 c2 f0 f1 f2
      obtain ⟨⟨c0, c1, c2⟩, f0, f1, f2⟩ := ex3_held g2
      have HG2 := hide g2
      clear hb2 g2
      unfold exV
      go_wp2_with fail
      exact bodyPost_ret (results_cell_row rfl _ _ (w.heap.size + 1) 62 #[.bool true, .int .i64 0, .int .i64 0] (0, 0) _ rfl (set3_row (unhide HG2) _ _ _) Tryd.underlying62 rfl size_extent) rfl ⟨rfl, set3_below (unhide HB2) (by omega) _ _ _⟩
    · rw [if_neg (by simp [hz])]
      unfold exV
      have hzb : (x2 == 0) = false := by rw [beq_eq_false_iff_ne]; exact hz
      go_enter Tryd.func17, Tryd.ntmps17
      go_wp2_with fail
      refine (unhide H _ (unhide HW)).mono ?_
      rintro e w1 ⟨rfl, hb1⟩
      have HB := hide (bnext (unhide HW) hb1)
      have g1 : w1.heap[w.heap.size + 1]? = some (ex3 (.bool false) (.int .i64 0) (.int .i64 0)) := row_below (at_new (by simp)) hb1
      have hlt : w.heap.size + 1 < w1.heap.size := (Array.getElem?_eq_some_iff.1 g1).1
      have hne1 : ¬ w.heap.size + 1 = w1.heap.size := by omega
      have hne2 : ¬ w1.heap.size = w.heap.size + 1 := by omega
      obtain ⟨⟨c0, c1, c2⟩, f0, f1, f2⟩ := ex3_held g1
      have HG := hide g1
      clear hb1 g1
      unfold exV
      go_wp2_with fail
      exact bodyPost_ret (results_cell_row rfl _ _ (w.heap.size + 1) 62 #[.bool true, .int .i64 0, .int .i64 (-1)] (0, 0) _ rfl (at_old (by rw [World.size_setCell, World.size_setCell, World.size_setCell]; exact hlt) (set3_row (unhide HG) _ _ _)) Tryd.underlying62 rfl size_extent) rfl ⟨rfl, by have h := set3_below (unhide HB) (z := w.heap.size + 1) (by omega) (.bool true) (.int .i64 0) (.int .i64 (-1)); exact h.alloc h.size _⟩

set_option maxRecDepth 100000 in
set_option maxHeartbeats 2000000 in
theorem cat_any (T : PT) (ih : ∀ i, i < T.len → ExtSays (T.kid i)) : CatSays T := by
  intro w hT hF
  obtain ⟨x, hx⟩ : ∃ x, x = catTo (fun i => (T.kid i).ext) T.len := ⟨_, rfl⟩
  rw [← hx]
  have hmax := hT.max
  unfold maxLen at hmax
  have HD := hide (And.intro hx (And.intro hT (And.intro hF ih)))
  clear hx hT hF ih
  unfold ExtPost exV
  go_enter Tryd.func39, Tryd.ntmps39
  go_wp2_with fail
  refine (just_any _ _).mono ?_
  rintro e w1 ⟨rfl, hb1⟩
  have HB := hide (bnext ((Below.refl w.heap.size w).alloc (Nat.le_refl _) _) hb1)
  have g1 : w1.heap[w.heap.size]? = some (ex3 (.bool false) (.int .i64 0) (.int .i64 0)) := row_below (at_new rfl) hb1
  have hlt : w.heap.size < w1.heap.size := (Array.getElem?_eq_some_iff.1 g1).1
  have HG := hide g1
  clear hb1 g1
  unfold exV
  go_wp2_with fail
  obtain ⟨y, hy⟩ : ∃ y, y = w1.heap.size := ⟨_, rfl⟩
  have hg0 : (w1.alloc (ex3 (.bool true) (.int .i64 0) (.int .i64 0))).heap[w.heap.size]? = some (ex3 (.bool false) (.int .i64 0) (.int .i64 0)) := at_old hlt (unhide HG)
  have hgy : (w1.alloc (ex3 (.bool true) (.int .i64 0) (.int .i64 0))).heap[y]? = some (ex3 (.bool true) (.int .i64 0) (.int .i64 0)) := at_new hy
  have hbb : Below w.heap.size w (w1.alloc (ex3 (.bool true) (.int .i64 0) (.int .i64 0))) := (unhide HB).alloc (by omega) _
  rw [← hy] at hlt ⊢
  have hS := hide (And.intro hg0 (And.intro hgy hbb))
  clear hy HB HG hg0 hgy hbb
  go_loopw [10] (fun i wr => ∃ (k : Nat) (a b : Int), k ≤ T.len ∧ i = .int .i64 (k : Int) ∧ catTo (fun i => (T.kid i).ext) k = (true, a, b) ∧ wr.heap[w.heap.size]? = some (ex3 (.bool false) (.int .i64 0) (.int .i64 0)) ∧ wr.heap[y]? = some (ex3 (.bool true) (.int .i64 a) (.int .i64 b)) ∧ Below w.heap.size w wr) (fun i _ => T.len - (intOf i).toNat)
  case atStart => exact ⟨0, 0, 0, by omega, rfl, rfl, (unhide hS).1, (unhide hS).2.1, (unhide hS).2.2⟩
  case round =>
    clear hS
    obtain ⟨k, a, b, hk, rfl, hab, g0, gy, hbr⟩ := hrel
    obtain ⟨hx, hT, hF, ih⟩ := unhide HD
    have hyl : y < wr.heap.size := (Array.getElem?_eq_some_iff.1 gy).1
    rcases Nat.lt_or_ge k T.len with hkt | hkt
    · have hlt' : (k : Int) < (T.len : Int) := by omega
      have HMS := hide (show T.len - (intOf (Value.int IntKind.i64 ((k : Int) + 1))).toNat < T.len - (intOf (Value.int IntKind.i64 (k : Int))).toNat by simp [intOf]; omega)
      have hex := ext_B (T.kid k) (hF.kid hkt)
      have hacc := exB_catTo (f := fun i => (T.kid i).ext) k (fun i hi => ext_B _ (hF.kid (by omega)))
      rw [hab] at hacc
      have hia := kid_at hT hkt
      obtain ⟨k0, k1, k2, k3, k4⟩ := hT.cells hkt
      have k0 := cell_later hbr k0
      have k1 := cell_later hbr k1
      have k2 := cell_later hbr k2
      have k3 := cell_later hbr k3
      have k4 := cell_later hbr k4
      unfold PT.kv at k4
      have hn : catTo (fun i => (T.kid i).ext) (k + 1) = exCat (true, a, b) (T.kid k).ext := by rw [catTo, hab]
      have hstop := fun h => catTo_stop (f := fun i => (T.kid i).ext) (k := k) h T.len hkt
      rw [← hx] at hstop
      obtain ⟨U, hU⟩ : ∃ U, U = T.kid k := ⟨_, rfl⟩
      have H := hide (fun W (h : Below w.heap.size w W) => ih k hkt W (PT.In.later h (hT.kids hkt)) (hF.kid hkt))
      rw [← hU] at hex k0 k1 k2 k3 k4 hn H
      have hstop : U.ext.1 = false → x = exNo := fun h => hstop (by rw [← hU]; exact h)
      obtain ⟨x', hx'⟩ : ∃ x', x' = U.ext := ⟨_, rfl⟩
      rw [← hx'] at hex hn H hstop
      unfold pv at H
      obtain ⟨u0, u1, u2⟩ := x'
      have HE := hide (And.intro hex (And.intro hacc (And.intro hn hstop)))
      have HR := hide (And.intro g0 (And.intro gy hbr))
      clear hex hacc hn hstop hU hx' hT hF ih g0 gy hbr hab hx
      go_wp2_with fail
      refine (unhide H _ ((unhide HR).2.2.alloc (unhide HR).2.2.size _)).mono ?_
      rintro e w2 ⟨rfl, hb2⟩
      have hbs := (unhide HR).2.2.size
      have HB2 := hide (bnext ((unhide HR).2.2.alloc hbs _) hb2)
      have g0 : w2.heap[w.heap.size]? = some (ex3 (.bool false) (.int .i64 0) (.int .i64 0)) := row_below (at_old (by omega) (unhide HR).1) hb2
      have gy : w2.heap[y]? = some (ex3 (.bool true) (.int .i64 a) (.int .i64 b)) := row_below (at_old hyl (unhide HR).2.1) hb2
      have hy2 : y < w2.heap.size := (Array.getElem?_eq_some_iff.1 gy).1
      have n7 : w.heap.size < w2.heap.size := by omega
      have n1 : ¬ y = w2.heap.size := by omega
      have n2 : ¬ w2.heap.size = y := by omega
      have n3 : ¬ w.heap.size = w2.heap.size := by omega
      have n4 : ¬ w2.heap.size = w.heap.size := by omega
      have n5 : ¬ w.heap.size = y := by omega
      have n6 : ¬ y = w.heap.size := by omega
      have HG := hide (And.intro g0 gy)
      clear hb2 HR hyl hbs k0 k1 k2 k3 k4 hia H
      unfold exV
      dsimp only
      cases u0 with
      | false =>
        obtain rfl : x = exNo := (unhide HE).2.2.2 rfl
        obtain ⟨⟨c0, c1, c2⟩, f0, f1, f2⟩ := ex3_held g0
        clear g0 gy
        go_wp2_with fail
        exact bodyPost_ret (results_cell_row rfl _ _ w.heap.size 62 #[.bool false, .int .i64 0, .int .i64 0] (0, 0) _ rfl (at_keep3 (set3_row (unhide HG).1 _ _ _)) Tryd.underlying62 rfl size_extent) rfl ⟨rfl, by have h := set3_below (unhide HB2) (Nat.le_refl w.heap.size) (.bool false) (.int .i64 0) (.int .i64 0); exact h.alloc h.size _⟩
      | true =>
        obtain ⟨⟨c0, c1, c2⟩, f0, f1, f2⟩ := ex3_held gy
        clear g0 gy
        obtain ⟨e1, e2, e3, e4, -⟩ := (unhide HE).1
        obtain ⟨r1, r2, r3, r4, -⟩ := (unhide HE).2.1
        dsimp only at e1 e2 e3 e4 r1 r2 r3 r4
        have hw1 : wrap64 (a + u1) = a + u1 := IntWalk.wrap64_in _ (by omega)
        have hw2 : IntKind.i64.wrap (a + u1) = a + u1 := (IntWalk.i64_left _).trans hw1
        have hw3 : wrap64 (b + u2) = b + u2 := IntWalk.wrap64_in _ (by omega)
        have hw4 : IntKind.i64.wrap (b + u2) = b + u2 := (IntWalk.i64_left _).trans hw3
        have hk1 : wrap64 ((k : Int) + 1) = (k : Int) + 1 := IntWalk.wrap64_in _ (by omega)
        have hk2 : IntKind.i64.wrap ((k : Int) + 1) = (k : Int) + 1 := (IntWalk.i64_left _).trans hk1
        clear e1 e2 e3 e4 r1 r2 r3 r4
        by_cases hb : b = -1
        · subst hb
          go_wp2_with fail
          refine ⟨⟨k + 1, (if 65537 < a + u1 then 65537 else a + u1), -1, hkt, by simp, ?_, (acc_kept (unhide HG).1 (unhide HG).2 n5 _ _ _).1, (acc_kept (unhide HG).1 (unhide HG).2 n5 _ _ _).2, acc_below (unhide HB2) (Nat.le_of_lt hlt) _ _ _⟩, ?_⟩
          · rw [(unhide HE).2.2.1]; exact exCat_true (fun _ => rfl) (fun h => absurd (.inl rfl) h)
          · exact unhide HMS
        · have hbb : (b == -1) = false := by rw [beq_eq_false_iff_ne]; exact hb
          by_cases hu : u2 = -1
          · subst hu
            go_wp2_with fail
            refine ⟨⟨k + 1, (if 65537 < a + u1 then 65537 else a + u1), -1, hkt, by simp, ?_, (acc_kept (unhide HG).1 (unhide HG).2 n5 _ _ _).1, (acc_kept (unhide HG).1 (unhide HG).2 n5 _ _ _).2, acc_below (unhide HB2) (Nat.le_of_lt hlt) _ _ _⟩, ?_⟩
            · rw [(unhide HE).2.2.1]; exact exCat_true (fun _ => rfl) (fun h => absurd (.inr (.inl rfl)) h)
            · exact unhide HMS
          · have huu : (u2 == -1) = false := by rw [beq_eq_false_iff_ne]; exact hu
            by_cases hs : 65536 < b + u2
            · go_wp2_with fail
              refine ⟨⟨k + 1, (if 65537 < a + u1 then 65537 else a + u1), -1, hkt, by simp, ?_, (acc_kept (unhide HG).1 (unhide HG).2 n5 _ _ _).1, (acc_kept (unhide HG).1 (unhide HG).2 n5 _ _ _).2, acc_below (unhide HB2) (Nat.le_of_lt hlt) _ _ _⟩, ?_⟩
              · rw [(unhide HE).2.2.1]; exact exCat_true (fun _ => rfl) (fun h => absurd (.inr (.inr hs)) h)
              · exact unhide HMS
            · go_wp2_with fail
              refine ⟨⟨k + 1, (if 65537 < a + u1 then 65537 else a + u1), (b + u2), hkt, by simp, ?_, (acc_kept (unhide HG).1 (unhide HG).2 n5 _ _ _).1, (acc_kept (unhide HG).1 (unhide HG).2 n5 _ _ _).2, acc_below (unhide HB2) (Nat.le_of_lt hlt) _ _ _⟩, ?_⟩
              · rw [(unhide HE).2.2.1]; exact exCat_true (fun h => absurd h (fun q => q.elim hb (fun q => q.elim hu hs))) (fun _ => rfl)
              · exact unhide HMS
    · have hge' : ¬ (k : Int) < (T.len : Int) := by omega
      obtain rfl : x = (true, a, b) := by rw [hx, ← hab, show k = T.len by omega]
      have HG := hide (And.intro g0 hbr)
      clear hx hT hF ih
      obtain ⟨⟨c0, c1, c2⟩, f0, f1, f2⟩ := ex3_held gy
      obtain ⟨⟨d0, d1, d2⟩, h0, h1, h2⟩ := ex3_held g0
      go_wp2_with fail
      exact bodyPost_ret (results_cell_row rfl _ _ w.heap.size 62 #[.bool true, .int .i64 a, .int .i64 b] (0, 0) _ rfl (set3_row (unhide HG).1 _ _ _) Tryd.underlying62 rfl size_extent) rfl ⟨rfl, set3_below (unhide HG).2 (Nat.le_refl _) _ _ _⟩

set_option maxRecDepth 100000 in
set_option maxHeartbeats 2000000 in
theorem alt_any (T : PT) (ih : ∀ i, i < T.len → ExtSays (T.kid i)) : AltSays T := by
  intro w hT hF
  obtain ⟨x, hx⟩ : ∃ x, x = altTo (fun i => (T.kid i).ext) T.len := ⟨_, rfl⟩
  rw [← hx]
  have hmax := hT.max
  unfold maxLen at hmax
  have HD := hide (And.intro hx (And.intro hT (And.intro hF ih)))
  clear hx hT hF ih
  unfold ExtPost exV
  go_enter Tryd.func40, Tryd.ntmps40
  go_wp2_with fail
  obtain ⟨y, hy⟩ : ∃ y, y = w.heap.size + 1 := ⟨_, rfl⟩
  have hlt : w.heap.size < y := by omega
  have hg0 : ((w.alloc (ex3 (.bool false) (.int .i64 0) (.int .i64 0))).alloc (ex3 (.bool false) (.int .i64 0) (.int .i64 0))).heap[w.heap.size]? = some (ex3 (.bool false) (.int .i64 0) (.int .i64 0)) := at_keep3 (at_new rfl)
  have hgy : ((w.alloc (ex3 (.bool false) (.int .i64 0) (.int .i64 0))).alloc (ex3 (.bool false) (.int .i64 0) (.int .i64 0))).heap[y]? = some (ex3 (.bool false) (.int .i64 0) (.int .i64 0)) := at_new (by rw [hy]; simp)
  have hbb : Below w.heap.size w ((w.alloc (ex3 (.bool false) (.int .i64 0) (.int .i64 0))).alloc (ex3 (.bool false) (.int .i64 0) (.int .i64 0))) := ((Below.refl w.heap.size w).alloc (Nat.le_refl _) _).alloc (by simp) _
  rw [← hy]
  have hS := hide (And.intro hg0 (And.intro hgy hbb))
  clear hy hg0 hgy hbb
  go_loopw [9] (fun i wr => ∃ (k : Nat) (a0 : Bool) (a b : Int), k ≤ T.len ∧ i = .int .i64 (k : Int) ∧ altTo (fun i => (T.kid i).ext) k = (a0, a, b) ∧ wr.heap[w.heap.size]? = some (ex3 (.bool false) (.int .i64 0) (.int .i64 0)) ∧ wr.heap[y]? = some (ex3 (.bool a0) (.int .i64 a) (.int .i64 b)) ∧ Below w.heap.size w wr) (fun i _ => T.len - (intOf i).toNat)
  case atStart => exact ⟨0, false, 0, 0, by omega, rfl, rfl, (unhide hS).1, (unhide hS).2.1, (unhide hS).2.2⟩
  case round =>
    clear hS
    obtain ⟨k, a0, a, b, hk, rfl, hab, g0, gy, hbr⟩ := hrel
    obtain ⟨hx, hT, hF, ih⟩ := unhide HD
    have hyl : y < wr.heap.size := (Array.getElem?_eq_some_iff.1 gy).1
    rcases Nat.lt_or_ge k T.len with hkt | hkt
    · have hlt' : (k : Int) < (T.len : Int) := by omega
      have HMS := hide (show T.len - (intOf (Value.int IntKind.i64 ((k : Int) + 1))).toNat < T.len - (intOf (Value.int IntKind.i64 (k : Int))).toNat by simp [intOf]; omega)
      have hex := ext_B (T.kid k) (hF.kid hkt)
      have hacc := exB_altTo (f := fun i => (T.kid i).ext) k (fun i hi => ext_B _ (hF.kid (by omega)))
      rw [hab] at hacc
      have hia := kid_at hT hkt
      obtain ⟨k0, k1, k2, k3, k4⟩ := hT.cells hkt
      have k0 := cell_later hbr k0
      have k1 := cell_later hbr k1
      have k2 := cell_later hbr k2
      have k3 := cell_later hbr k3
      have k4 := cell_later hbr k4
      unfold PT.kv at k4
      have hn : altTo (fun i => (T.kid i).ext) (k + 1) = exAlt (a0, a, b) (T.kid k).ext := by rw [altTo, hab]
      obtain ⟨U, hU⟩ : ∃ U, U = T.kid k := ⟨_, rfl⟩
      have H := hide (fun W (h : Below w.heap.size w W) => ih k hkt W (PT.In.later h (hT.kids hkt)) (hF.kid hkt))
      rw [← hU] at hex k0 k1 k2 k3 k4 hn H
      obtain ⟨x', hx'⟩ : ∃ x', x' = U.ext := ⟨_, rfl⟩
      rw [← hx'] at hex hn H
      unfold pv at H
      obtain ⟨u0, u1, u2⟩ := x'
      have HE := hide (And.intro hex (And.intro hacc hn))
      have HR := hide (And.intro g0 (And.intro gy hbr))
      clear hex hacc hn hU hx' hT hF ih g0 gy hbr hab hx
      go_wp2_with fail
      refine (unhide H _ ((unhide HR).2.2.alloc (unhide HR).2.2.size _)).mono ?_
      rintro e w2 ⟨rfl, hb2⟩
      have hbs := (unhide HR).2.2.size
      have HB2 := hide (bnext ((unhide HR).2.2.alloc hbs _) hb2)
      have g0 : w2.heap[w.heap.size]? = some (ex3 (.bool false) (.int .i64 0) (.int .i64 0)) := row_below (at_old (by omega) (unhide HR).1) hb2
      have gy : w2.heap[y]? = some (ex3 (.bool a0) (.int .i64 a) (.int .i64 b)) := row_below (at_old hyl (unhide HR).2.1) hb2
      have hy2 : y < w2.heap.size := (Array.getElem?_eq_some_iff.1 gy).1
      have n7 : w.heap.size < w2.heap.size := by omega
      have n1 : ¬ y = w2.heap.size := by omega
      have n2 : ¬ w2.heap.size = y := by omega
      have n3 : ¬ w.heap.size = w2.heap.size := by omega
      have n4 : ¬ w2.heap.size = w.heap.size := by omega
      have n5 : ¬ w.heap.size = y := by omega
      have n6 : ¬ y = w.heap.size := by omega
      have HG := hide (And.intro g0 gy)
      clear hb2 HR hyl hbs k0 k1 k2 k3 k4 hia H
      unfold exV
      dsimp only
      obtain ⟨⟨c0, c1, c2⟩, f0, f1, f2⟩ := ex3_held gy
      clear g0 gy
      have hk1 : wrap64 ((k : Int) + 1) = (k : Int) + 1 := IntWalk.wrap64_in _ (by omega)
      have hk2 : IntKind.i64.wrap ((k : Int) + 1) = (k : Int) + 1 := (IntWalk.i64_left _).trans hk1
      cases u0 with
      | false =>
        go_wp2_with fail
        refine ⟨⟨k + 1, a0, a, b, hkt, by simp, ?_, at_keep3 (unhide HG).1, at_keep3 (unhide HG).2, (unhide HB2).alloc (unhide HB2).size _⟩, unhide HMS⟩
        rw [(unhide HE).2.2, exAlt, if_pos rfl]
      | true =>
        cases a0 with
        | false =>
          go_wp2_with fail
          refine ⟨⟨k + 1, true, u1, u2, hkt, by simp, ?_, at_keep3 (((((But.refl y w2).setCell 0 (.bool true)).setCell 1 (.int .i64 u1)).setCell 2 (.int .i64 u2)).row n5 (unhide HG).1), at_keep3 (set3_row (unhide HG).2 _ _ _), ?_⟩, unhide HMS⟩
          · rw [(unhide HE).2.2, exAlt, if_neg (by simp), if_pos rfl]
          · have h := set3_below (unhide HB2) (Nat.le_of_lt hlt) (.bool true) (.int .i64 u1) (.int .i64 u2)
            exact h.alloc h.size _
        | true =>
          by_cases hb : b = -1
          · subst hb
            go_wp2_with fail
            refine ⟨⟨k + 1, true, (if u1 < a then u1 else a), -1, hkt, by simp, ?_, (acc_kept (unhide HG).1 (unhide HG).2 n5 _ _ _).1, (acc_kept (unhide HG).1 (unhide HG).2 n5 _ _ _).2, acc_below (unhide HB2) (Nat.le_of_lt hlt) _ _ _⟩, unhide HMS⟩
            rw [(unhide HE).2.2]; exact exAlt_true (fun _ => rfl) (fun h => absurd (.inl rfl) h)
          · have hbb : (b == -1) = false := by rw [beq_eq_false_iff_ne]; exact hb
            by_cases hu : u2 = -1
            · subst hu
              go_wp2_with fail
              refine ⟨⟨k + 1, true, (if u1 < a then u1 else a), -1, hkt, by simp, ?_, (acc_kept (unhide HG).1 (unhide HG).2 n5 _ _ _).1, (acc_kept (unhide HG).1 (unhide HG).2 n5 _ _ _).2, acc_below (unhide HB2) (Nat.le_of_lt hlt) _ _ _⟩, unhide HMS⟩
              rw [(unhide HE).2.2]; exact exAlt_true (fun _ => rfl) (fun h => absurd (.inr rfl) h)
            · have huu : (u2 == -1) = false := by rw [beq_eq_false_iff_ne]; exact hu
              go_wp2_with fail
              refine ⟨⟨k + 1, true, (if u1 < a then u1 else a), (if b < u2 then u2 else b), hkt, by simp, ?_, (acc_kept (unhide HG).1 (unhide HG).2 n5 _ _ _).1, (acc_kept (unhide HG).1 (unhide HG).2 n5 _ _ _).2, acc_below (unhide HB2) (Nat.le_of_lt hlt) _ _ _⟩, unhide HMS⟩
              rw [(unhide HE).2.2]; exact exAlt_true (fun h => absurd h (fun q => q.elim hb hu)) (fun _ => max_ite b u2)
    · have hge' : ¬ (k : Int) < (T.len : Int) := by omega
      obtain rfl : x = (a0, a, b) := by rw [hx, ← hab, show k = T.len by omega]
      have HG := hide (And.intro g0 hbr)
      clear hx hT hF ih
      obtain ⟨⟨c0, c1, c2⟩, f0, f1, f2⟩ := ex3_held gy
      obtain ⟨⟨d0, d1, d2⟩, h0, h1, h2⟩ := ex3_held g0
      go_wp2_with fail
      exact bodyPost_ret (results_cell_row rfl _ _ w.heap.size 62 #[.bool a0, .int .i64 a, .int .i64 b] (0, 0) _ rfl (set3_row (unhide HG).1 _ _ _) Tryd.underlying62 rfl size_extent) rfl ⟨rfl, set3_below (unhide HG).2 (Nat.le_refl _) _ _ _⟩

theorem ext_any : ∀ T : PT, ExtSays T := PT.ind fun T ih w hT hF => by
  have hk := hF.ok.1
  have ho := hF.ok
  rcases (show T.k = 1 ∨ T.k = 2 ∨ T.k = 3 ∨ T.k = 4 ∨ T.k = 5 ∨ T.k = 6 ∨ T.k = 7 ∨ T.k = 8 ∨ T.k = 9 ∨ T.k = 10 ∨ T.k = 11 ∨ T.k = 12 ∨ T.k = 13 ∨ T.k = 14 ∨ T.k = 15 ∨ T.k = 16 ∨ T.k = 17 ∨ T.k = 18 ∨ T.k = 19 ∨ T.k = 20 ∨ T.k = 21 ∨ T.k = 22 ∨ T.k = 23 ∨ T.k = 24 by omega) with q | q | q | q | q | q | q | q | q | q | q | q | q | q | q | q | q | q | q | q | q | q | q | q
  · exact ext_k1 T q w
  · exact ext_k2 T q w
  · exact ext_k3 T q w
  · exact ext_k4 T q w
  · exact ext_k5 T q w
  · exact ext_k6 T q w
  · exact ext_k7 T q w
  · exact ext_k8 T q w
  · exact ext_k9 T q w
  · exact ext_k10 T q w
  · exact ext_k11 T q w
  · exact ext_k12 T q w
  · exact ext_k13 T q w
  · exact ext_k14 T q w
  · exact ext_k15 T q w
  · exact ext_k16 T q w
  · exact ext_k17 T q w
  · exact ext_k18 T q w hT hF (cat_any T ih)
  · exact ext_k19 T q w hT hF (alt_any T ih)
  · exact ext_k20 T q w hT hF (ih 0 (by have := ho.2.2.2.2 (by omega); omega))
  · exact ext_k21 T q w hT hF (ih 0 (by have := ho.2.2.2.2 (by omega); omega))
  · exact ext_k22 T q w hT hF (ih 0 (by have := ho.2.2.2.2 (by omega); omega))
  · exact ext_k23 T q w
  · exact ext_k24 T q w

end Go.Proofs.YtjfahpklemohgaaDoor
