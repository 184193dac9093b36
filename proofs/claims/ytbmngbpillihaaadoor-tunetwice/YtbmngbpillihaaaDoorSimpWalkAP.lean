/- The small functions of tune. -/
import Derived.Test.YtbmngbpillihaaaDoorText5M
import Derived.Test.YtbmngbpillihaaaDoorSize5M
import Derived.Test.YtbmngbpillihaaaDoorPatWrongP
import Derived.Laws.ResultCell
import Derived.Deep.QuietTactic
import Derived.BigQuiet
namespace Go.Proofs.YtbmngbpillihaaaDoor
open Go.RowKit

theorem pats5s {w : World} {z : Nat} {v0 v1 v2 v3 v4 : Value} (h : w.heap[z]? = some (.cells #[v0, v1, v2, v3, v4] 24 (0, 0))) :
    w.cell? ⟨z, 0, none⟩ = some v0 ∧ w.cell? ⟨z, 1, none⟩ = some v1 ∧ w.cell? ⟨z, 2, none⟩ = some v2 ∧ w.cell? ⟨z, 3, none⟩ = some v3 ∧ w.cell? ⟨z, 4, none⟩ = some v4 :=
  ⟨(cell_of_row w _ _ _ _ _ h).trans rfl, (cell_of_row w _ _ _ _ _ h).trans rfl, (cell_of_row w _ _ _ _ _ h).trans rfl, (cell_of_row w _ _ _ _ _ h).trans rfl, (cell_of_row w _ _ _ _ _ h).trans rfl⟩
theorem keepS {w : World} {z : Nat} {x o : Obj} (h : w.heap[z]? = some x) : (w.alloc o).heap[z]? = some x := at_old (Array.getElem?_eq_some_iff.1 h).1 h
theorem empS {t : ByteArray} : t.toList.isEmpty = decide (t.size = 0) := by
  rw [ByteArray.toList_eq]
  have hl : t.data.toList.length = t.size := by simp
  cases hd : t.data.toList with
  | nil => rw [hd] at hl; rw [decide_eq_true (show t.size = 0 by simpa using hl.symm)]; rfl
  | cons x l => rw [hd] at hl; rw [decide_eq_false (show ¬ t.size = 0 by intro e; rw [e] at hl; simp at hl)]; rfl
set_option maxRecDepth 100000 in
set_option maxHeartbeats 1000000 in
theorem isFail_any (T : PT) (w : World) : Calls Tryd.prog 81 #[pv T] w fun e w' => e = .returned (.bool (isF T)) ∧ Below w.heap.size w w' := by
  unfold pv isF
  by_cases h : T.k = 15
  · rw [h]
    go_enter Tryd.func81, Tryd.ntmps81
    go_wp2_with fail
    go_ret
    exact ⟨rfl, (Below.refl _ _).alloc (Nat.le_refl _) _⟩
  · have hb : (T.k == 15) = false := by rw [beq_eq_false_iff_ne]; exact h
    rw [decide_eq_false h]
    go_enter Tryd.func81, Tryd.ntmps81
    go_wp2_with fail
    go_ret
    exact ⟨rfl, (Below.refl _ _).alloc (Nat.le_refl _) _⟩
set_option maxRecDepth 100000 in
set_option maxHeartbeats 1000000 in
theorem isAbort_any (T : PT) (w : World) : Calls Tryd.prog 80 #[pv T] w fun e w' => e = .returned (.bool (isA T)) ∧ Below w.heap.size w w' := by
  unfold pv isA
  by_cases h : T.k = 17
  · rw [h]
    go_enter Tryd.func80, Tryd.ntmps80
    go_wp2_with fail
    go_ret
    exact ⟨rfl, (Below.refl _ _).alloc (Nat.le_refl _) _⟩
  · have hb : (T.k == 17) = false := by rw [beq_eq_false_iff_ne]; exact h
    rw [decide_eq_false h]
    go_enter Tryd.func80, Tryd.ntmps80
    go_wp2_with fail
    go_ret
    exact ⟨rfl, (Below.refl _ _).alloc (Nat.le_refl _) _⟩
set_option maxRecDepth 100000 in
set_option maxHeartbeats 1000000 in
theorem isEmpty_any (T : PT) (w : World) : Calls Tryd.prog 78 #[pv T] w fun e w' => e = .returned (.bool (isE T)) ∧ Below w.heap.size w w' := by
  unfold pv isE
  by_cases h : T.k = 1
  · rw [h, decide_eq_true (show (1 : Int) = 1 from rfl), Bool.true_and]
    have he := empS (t := T.t)
    rw [← he]
    clear he
    go_enter Tryd.func78, Tryd.ntmps78
    go_wp2_with fail
    go_ret
    exact ⟨rfl, (Below.refl _ _).alloc (Nat.le_refl _) _⟩
  · have hb : (T.k == 1) = false := by rw [beq_eq_false_iff_ne]; exact h
    rw [decide_eq_false h, Bool.false_and]
    go_enter Tryd.func78, Tryd.ntmps78
    go_wp2_with fail
    go_ret
    exact ⟨rfl, (Below.refl _ _).alloc (Nat.le_refl _) _⟩
set_option maxRecDepth 100000 in
set_option maxHeartbeats 1000000 in
theorem isOneByte_any (T : PT) (w : World) : Calls Tryd.prog 103 #[pv T] w fun e w' => e = .returned (.bool (oneB T)) ∧ Below w.heap.size w w' := by
  unfold pv oneB
  by_cases h : T.k = 3
  · rw [h, decide_eq_true (show (3 : Int) = 3 from rfl), Bool.true_or]
    go_enter Tryd.func103, Tryd.ntmps103
    go_wp2_with fail
    go_ret
    exact ⟨rfl, (Below.refl _ _).alloc (Nat.le_refl _) _⟩
  · have hb : (T.k == 3) = false := by rw [beq_eq_false_iff_ne]; exact h
    rw [decide_eq_false h, Bool.false_or]
    by_cases h1 : T.k = 1
    · by_cases h2 : T.t.size = 1
      · have hs : ((T.t.size : Int) == 1) = true := by rw [h2]; rfl
        rw [h1, decide_eq_true (show (1 : Int) = 1 from rfl), decide_eq_true h2]
        clear h2 hb h
        go_enter Tryd.func103, Tryd.ntmps103
        go_wp2_with fail
        go_ret
        exact ⟨rfl, (Below.refl _ _).alloc (Nat.le_refl _) _⟩
      · have hs : ((T.t.size : Int) == 1) = false := by rw [beq_eq_false_iff_ne]; omega
        rw [h1, decide_eq_true (show (1 : Int) = 1 from rfl), decide_eq_false h2]
        clear h2 hb h
        go_enter Tryd.func103, Tryd.ntmps103
        go_wp2_with fail
        go_ret
        exact ⟨rfl, (Below.refl _ _).alloc (Nat.le_refl _) _⟩
    · have hb1 : (T.k == 1) = false := by rw [beq_eq_false_iff_ne]; exact h1
      rw [decide_eq_false h1, Bool.false_and]
      go_enter Tryd.func103, Tryd.ntmps103
      go_wp2_with fail
      go_ret
      exact ⟨rfl, (Below.refl _ _).alloc (Nat.le_refl _) _⟩
set_option maxRecDepth 100000 in
set_option maxHeartbeats 1000000 in
theorem neverEnds_any (T : PT) (w : World) : Calls Tryd.prog 49 #[pv T] w fun e w' => e = .returned (.bool (nev T)) ∧ Below w.heap.size w w' := by
  have H1 := hide (fun W => isFail_any T W)
  have H2 := hide (fun W => isAbort_any T W)
  unfold nev
  unfold pv at H1 H2 ⊢
  generalize isF T = f1 at *
  generalize isA T = f2 at *
  go_enter Tryd.func49, Tryd.ntmps49
  go_wp2_with fail
  refine (unhide H1 _).mono ?_
  rintro e w1 ⟨rfl, hb1⟩
  have g1 := row_below (at_new (w := w) (o := .cells #[.int .i64 T.k, .string T.t, .int .i64 T.n, .string T.nm, .slice T.xa T.len T.cap] 24) rfl) hb1
  have HB := hide (bnext ((Below.refl w.heap.size w).alloc (Nat.le_refl _) _) hb1)
  obtain ⟨y0, y1, y2, y3, y4⟩ := pats5s g1
  clear hb1 g1
  cases f1 with
  | true =>
    go_wp2_with fail
    go_ret
    exact ⟨rfl, unhide HB⟩
  | false =>
    go_wp2_with fail
    refine (unhide H2 _).mono ?_
    rintro e w2 ⟨rfl, hb2⟩
    have HB2 := hide (bnext (unhide HB) hb2)
    clear hb2 y0 y1 y2 y3 y4
    go_wp2_with fail
    go_ret
    exact ⟨rfl, unhide HB2⟩
end Go.Proofs.YtbmngbpillihaaaDoor
