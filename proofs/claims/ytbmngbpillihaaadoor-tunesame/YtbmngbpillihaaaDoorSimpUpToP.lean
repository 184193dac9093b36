/- Which kids stay: the function that tune.upTo makes. -/
import Derived.Test.YtbmngbpillihaaaDoorSimpWalkBP
namespace Go.Proofs.YtbmngbpillihaaaDoor
open Go.RowKit

def fnV (f : Nat) : Value := .func (.func f) #[] #[]
def box1 (v : Value) (t : TypeId) : Obj := .cells #[v] t (0, 0)
theorem box1_cell {w : World} {z t : Nat} {v : Value} (h : w.heap[z]? = some (box1 v t)) : w.cell? ⟨z, 0, none⟩ = some v := (cell_of_row w _ _ _ _ _ h).trans rfl
theorem box1_free {w : World} {z t : Nat} {v : Value} (h : w.heap[z]? = some (box1 v t)) : w.frozen? ⟨z, 0, none⟩ = false := frozen_of_row w z 0 _ _ h
theorem box1_set {w : World} {z t : Nat} {v u : Value} (h : w.heap[z]? = some (box1 v t)) : (w.setCell ⟨z, 0, none⟩ u).heap[z]? = some (box1 u t) := heap_setCell_same _ z 0 _ _ u h
set_option maxRecDepth 100000 in
set_option maxHeartbeats 2000000 in
theorem stays_cat (T : PT) (ov : Bool) (zo zi zl to tf : Nat) (w : World) (ho : w.heap[zo]? = some (box1 (.bool ov) to)) (hzi : w.heap[zi]? = some (box1 (fnV 78) tf)) (hzl : w.heap[zl]? = some (box1 (fnV 49) tf)) :
    Calls Tryd.prog 102 #[pv T, .pointer (some ⟨zo, 0, none⟩), .pointer (some ⟨zi, 0, none⟩), .pointer (some ⟨zl, 0, none⟩)] w fun e w' => e = .returned (.bool (!(ov || isE T))) ∧ But zo w w' ∧ w'.heap[zo]? = some (box1 (.bool (if (ov || isE T) = true then ov else nev T)) to) := by
  have H1 := hide (fun W => isEmpty_any T W)
  have H2 := hide (fun W => neverEnds_any T W)
  unfold pv at H1 H2 ⊢
  generalize isE T = fI at *
  generalize nev T = fL at *
  have hb0 : Below w.heap.size w (w.alloc (.cells #[.int .i64 T.k, .string T.t, .int .i64 T.n, .string T.nm, .slice T.xa T.len T.cap] 24)) := (Below.refl _ _).alloc (Nat.le_refl _) _
  have hco := cell_later hb0 (box1_cell ho)
  have hci := cell_later hb0 (box1_cell hzi)
  unfold fnV at hci
  have HR := hide (And.intro ho (And.intro hzi (And.intro hzl hb0)))
  clear ho hzi hzl hb0
  cases ov with
  | true =>
    go_enter Tryd.func102, Tryd.ntmps102
    go_wp2_with fail
    go_ret
    exact ⟨rfl, But.of_below (unhide HR).2.2.2, row_below (unhide HR).1 (unhide HR).2.2.2⟩
  | false =>
    go_enter Tryd.func102, Tryd.ntmps102
    go_wp2_with fail
    refine (unhide H1 _).mono ?_
    rintro e w1 ⟨rfl, hb1⟩
    have hbb := bnext (unhide HR).2.2.2 hb1
    have ho1 := row_below (unhide HR).1 hbb
    cases fI with
    | true =>
      have HB := hide (And.intro hbb ho1)
      clear hbb ho1 hb1 hco hci
      go_wp2_with fail
      go_ret
      exact ⟨rfl, But.of_below (unhide HB).1, (unhide HB).2⟩
    | false =>
      have g1 := row_below (at_new (w := w) (o := .cells #[.int .i64 T.k, .string T.t, .int .i64 T.n, .string T.nm, .slice T.xa T.len T.cap] 24) rfl) hb1
      obtain ⟨y0, y1, y2, y3, y4⟩ := pats5s g1
      have hcl := box1_cell (row_below (unhide HR).2.2.1 hbb)
      unfold fnV at hcl
      have HB := hide (And.intro hbb ho1)
      clear hbb ho1 hb1 hco hci g1
      go_wp2_with fail
      refine (unhide H2 _).mono ?_
      rintro e w2 ⟨rfl, hb2⟩
      have ho2 := row_below (unhide HB).2 hb2
      have f2 := box1_free ho2
      have c2 := box1_cell ho2
      have HB2 := hide (And.intro (bnext (unhide HB).1 hb2) ho2)
      clear hb2 ho2 y0 y1 y2 y3 y4 hcl
      go_wp2_with fail
      go_ret
      exact ⟨rfl, (But.of_below (unhide HB2).1).trans ((But.refl zo _).setCell 0 _), box1_set (unhide HB2).2⟩
set_option maxRecDepth 100000 in
set_option maxHeartbeats 2000000 in
theorem stays_alt (T : PT) (ov : Bool) (zo zi zl to tf : Nat) (w : World) (ho : w.heap[zo]? = some (box1 (.bool ov) to)) (hzi : w.heap[zi]? = some (box1 (fnV 81) tf)) (hzl : w.heap[zl]? = some (box1 (fnV 80) tf)) :
    Calls Tryd.prog 102 #[pv T, .pointer (some ⟨zo, 0, none⟩), .pointer (some ⟨zi, 0, none⟩), .pointer (some ⟨zl, 0, none⟩)] w fun e w' => e = .returned (.bool (!(ov || isF T))) ∧ But zo w w' ∧ w'.heap[zo]? = some (box1 (.bool (if (ov || isF T) = true then ov else isA T)) to) := by
  have H1 := hide (fun W => isFail_any T W)
  have H2 := hide (fun W => isAbort_any T W)
  unfold pv at H1 H2 ⊢
  generalize isF T = fI at *
  generalize isA T = fL at *
  have hb0 : Below w.heap.size w (w.alloc (.cells #[.int .i64 T.k, .string T.t, .int .i64 T.n, .string T.nm, .slice T.xa T.len T.cap] 24)) := (Below.refl _ _).alloc (Nat.le_refl _) _
  have hco := cell_later hb0 (box1_cell ho)
  have hci := cell_later hb0 (box1_cell hzi)
  unfold fnV at hci
  have HR := hide (And.intro ho (And.intro hzi (And.intro hzl hb0)))
  clear ho hzi hzl hb0
  cases ov with
  | true =>
    go_enter Tryd.func102, Tryd.ntmps102
    go_wp2_with fail
    go_ret
    exact ⟨rfl, But.of_below (unhide HR).2.2.2, row_below (unhide HR).1 (unhide HR).2.2.2⟩
  | false =>
    go_enter Tryd.func102, Tryd.ntmps102
    go_wp2_with fail
    refine (unhide H1 _).mono ?_
    rintro e w1 ⟨rfl, hb1⟩
    have hbb := bnext (unhide HR).2.2.2 hb1
    have ho1 := row_below (unhide HR).1 hbb
    cases fI with
    | true =>
      have HB := hide (And.intro hbb ho1)
      clear hbb ho1 hb1 hco hci
      go_wp2_with fail
      go_ret
      exact ⟨rfl, But.of_below (unhide HB).1, (unhide HB).2⟩
    | false =>
      have g1 := row_below (at_new (w := w) (o := .cells #[.int .i64 T.k, .string T.t, .int .i64 T.n, .string T.nm, .slice T.xa T.len T.cap] 24) rfl) hb1
      obtain ⟨y0, y1, y2, y3, y4⟩ := pats5s g1
      have hcl := box1_cell (row_below (unhide HR).2.2.1 hbb)
      unfold fnV at hcl
      have HB := hide (And.intro hbb ho1)
      clear hbb ho1 hb1 hco hci g1
      go_wp2_with fail
      refine (unhide H2 _).mono ?_
      rintro e w2 ⟨rfl, hb2⟩
      have ho2 := row_below (unhide HB).2 hb2
      have f2 := box1_free ho2
      have c2 := box1_cell ho2
      have HB2 := hide (And.intro (bnext (unhide HB).1 hb2) ho2)
      clear hb2 ho2 y0 y1 y2 y3 y4 hcl
      go_wp2_with fail
      go_ret
      exact ⟨rfl, (But.of_below (unhide HB2).1).trans ((But.refl zo _).setCell 0 _), box1_set (unhide HB2).2⟩
end Go.Proofs.YtbmngbpillihaaaDoor
