/- LexLine: what Line says is what the document says. -/
import Derived.Test.YtljkendefdhklaaDoorLexEq
import Derived.Test.YtljkendefdhklaaDoorLexRefB
namespace Go.Proofs.YtljkendefdhklaaDoor
open Go.RowKit

theorem cellF {w : World} {N : Nat} {T : TypeId} {x y : Value} (h : w.heap[N]? = some (.cells #[x, y] T (0, 0))) (o : Obj) : (w.alloc o).cell? ⟨N, 0, none⟩ = some x ∧ (w.alloc o).cell? ⟨N, 1, none⟩ = some y :=
  have k := row_below h ((Below.refl _ _).alloc (Nat.le_refl _) o)
  ⟨(cell_of_row _ _ 0 _ _ _ k).trans rfl, (cell_of_row _ _ 1 _ _ _ k).trans rfl⟩

set_option maxRecDepth 10000 in
set_option maxHeartbeats 800000 in
theorem lexLine_walk (s : ByteArray) (hs : s.size ≤ maxLen) (w : World) (hm : ∃ m, w.cell? ⟨0, 0, none⟩ = some (.int .i64 m)) :
    Calls Tryd.prog 3 #[.string s] w fun e w' => e = .returned (.bool true) ∧ Below w.heap.size w w' := by
  obtain ⟨m, hm⟩ := hm
  have H1 := hide (line_any s w hs m hm)
  have H2 := hide (fun W => refLine_any s W hs)
  have hf := line_fault s
  have HS := hide (line_small s)
  have HC := hide (line_count s)
  have heq := eq_fau ((lineP s).2.1 : Int) ((lineP s).2.2 : Int) (by omega) (by omega) (by omega) (by omega)
  unfold LinePost fau at H1 H2
  generalize (lineP s).2.1 = er at *
  generalize (lineP s).2.2 = ea at *
  generalize (lineP s).1 = L at *
  clear hm hf
  go_enter Tryd.func3, Tryd.ntmps3
  go_wp2_with fail
  refine (unhide H1).mono ?_
  rintro e w1 ⟨v1, rfl, hr1, hb1⟩
  have HR1 := hide (And.intro hr1 hb1)
  clear hr1 hb1
  go_wp2_with fail
  refine (unhide H2 _).mono ?_
  rintro e w2 ⟨v2, rfl, hr2, hb2⟩
  have hb0 : Below w1.heap.size w1 w2 := bnext ((Below.refl _ _).alloc (Nat.le_refl _) _) hb2
  have hf1 := row_below (at_new (w := w1) (o := .cells #[.int .i64 (er : Int), .int .i64 (ea : Int)] 25) rfl) hb2
  have c0 := fun o => (cellF hf1 o).1
  have c1 := fun o => (cellF hf1 o).2
  have HR2 := hide (And.intro hr2 (And.intro ((unhide HR1).1.later hb0) (bnext (unhide HR1).2 hb0)))
  clear hr2 hb2 hb0 hf1
  go_wp2_with fail
  refine (same_any v1 v2 L _ _ _ ((unhide HR2).2.1.later ((Below.refl _ _).alloc (Nat.le_refl _) _)) ((unhide HR2).1.later ((Below.refl _ _).alloc (Nat.le_refl _) _)) (unhide HS) (unhide HC)).mono ?_
  rintro e w4 ⟨rfl, hb4⟩
  have HB4 := hide (bnext (bnext (unhide HR2).2.2 ((Below.refl _ _).alloc (Nat.le_refl _) _)) hb4)
  clear hb4 heq
  go_wp2_with fail
  go_ret
  exact ⟨rfl, unhide HB4⟩
end Go.Proofs.YtljkendefdhklaaDoor
