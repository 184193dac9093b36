/- What is asked first of tune: a closed fact. -/
import Derived.Test.YtbmngbpillihaaaDoorLenWalkP
namespace Go.Proofs.YtbmngbpillihaaaDoor
open Go.RowKit

def pat5 (v0 v1 v2 v3 v4 : Value) : Obj := .cells #[v0, v1, v2, v3, v4] 24 (0, 0)
def set5 (w : World) (z : Nat) (v0 v1 v2 v3 v4 : Value) : World := ((((w.setCell ⟨z, 0, none⟩ v0).setCell ⟨z, 1, none⟩ v1).setCell ⟨z, 2, none⟩ v2).setCell ⟨z, 3, none⟩ v3).setCell ⟨z, 4, none⟩ v4
theorem set5_row {w : World} {z : Nat} {c0 c1 c2 c3 c4 : Value} (h : w.heap[z]? = some (pat5 c0 c1 c2 c3 c4)) (v0 v1 v2 v3 v4 : Value) : (set5 w z v0 v1 v2 v3 v4).heap[z]? = some (pat5 v0 v1 v2 v3 v4) := by
  have h0 : (w.setCell ⟨z, 0, none⟩ v0).heap[z]? = some (pat5 v0 c1 c2 c3 c4) := heap_setCell_same _ z 0 _ _ v0 h
  have h1 : ((w.setCell ⟨z, 0, none⟩ v0).setCell ⟨z, 1, none⟩ v1).heap[z]? = some (pat5 v0 v1 c2 c3 c4) := heap_setCell_same _ z 1 _ _ v1 h0
  have h2 : (((w.setCell ⟨z, 0, none⟩ v0).setCell ⟨z, 1, none⟩ v1).setCell ⟨z, 2, none⟩ v2).heap[z]? = some (pat5 v0 v1 v2 c3 c4) := heap_setCell_same _ z 2 _ _ v2 h1
  have h3 : ((((w.setCell ⟨z, 0, none⟩ v0).setCell ⟨z, 1, none⟩ v1).setCell ⟨z, 2, none⟩ v2).setCell ⟨z, 3, none⟩ v3).heap[z]? = some (pat5 v0 v1 v2 v3 c4) := heap_setCell_same _ z 3 _ _ v3 h2
  exact heap_setCell_same _ z 4 _ _ v4 h3
theorem set5_below {a w : World} (h : Below a.heap.size a w) {z : Nat} (hz : a.heap.size ≤ z) (v0 v1 v2 v3 v4 : Value) : Below a.heap.size a (set5 w z v0 v1 v2 v3 v4) :=
  But.below h ((((((But.refl z w).setCell 0 v0).setCell 1 v1).setCell 2 v2).setCell 3 v3).setCell 4 v4) hz
theorem pat5_free {w : World} {z : Nat} {c0 c1 c2 c3 c4 : Value} (h : w.heap[z]? = some (pat5 c0 c1 c2 c3 c4)) : w.frozen? ⟨z, 0, none⟩ = false ∧ w.frozen? ⟨z, 1, none⟩ = false ∧ w.frozen? ⟨z, 2, none⟩ = false ∧ w.frozen? ⟨z, 3, none⟩ = false ∧ w.frozen? ⟨z, 4, none⟩ = false :=
  ⟨frozen_of_row w z 0 _ _ h, frozen_of_row w z 1 _ _ h, frozen_of_row w z 2 _ _ h, frozen_of_row w z 3 _ _ h, frozen_of_row w z 4 _ _ h⟩
def litV (t : ByteArray) : Array Value := #[.int .i64 1, .string t, .int .i64 0, .string ⟨#[]⟩, .slice none 0 0]
set_option maxRecDepth 100000 in
set_option maxHeartbeats 1000000 in
theorem literal_any (t : ByteArray) (w : World) : Calls Tryd.prog 40 #[.string t] w fun e w' => e = .returned (.agg #[.int .i64 1, .string t, .int .i64 0, .string ⟨#[]⟩, .slice none 0 0]) ∧ Below w.heap.size w w' := by
  go_enter Tryd.func40, Tryd.ntmps40
  go_wp2_with fail
  exact bodyPost_ret (results_cell_row rfl _ _ w.heap.size 24 (litV t) (0, 0) _ rfl (at_new rfl) Tryd.underlying24 rfl size_pat) rfl ⟨rfl, (Below.refl _ _).alloc (Nat.le_refl _) _⟩
set_option maxRecDepth 100000 in
set_option maxHeartbeats 1000000 in
theorem counted_none (w : World) : Calls Tryd.prog 45 #[.int .i64 2, .int .i64 0] w fun e w' => e = .returned (.agg #[.int .i64 1, .string ⟨#[]⟩, .int .i64 0, .string ⟨#[]⟩, .slice none 0 0]) ∧ Below w.heap.size w w' := by
  go_enter Tryd.func45, Tryd.ntmps45
  go_wp2_with fail
  refine (literal_any _ _).mono ?_
  rintro e w1 ⟨rfl, hb1⟩
  have HB := hide (bnext ((Below.refl w.heap.size w).alloc (Nat.le_refl _) _) hb1)
  have g1 : w1.heap[w.heap.size]? = some (pat5 (.int .i64 0) (.string ⟨#[]⟩) (.int .i64 0) (.string ⟨#[]⟩) (.slice none 0 0)) := row_below (at_new rfl) hb1
  obtain ⟨y0, y1, y2, y3, y4⟩ := box5 g1
  obtain ⟨f0, f1, f2, f3, f4⟩ := pat5_free g1
  have HG := hide g1
  clear hb1 g1
  go_wp2_with fail
  exact bodyPost_ret (results_cell_row rfl _ _ w.heap.size 24 (litV ⟨#[]⟩) (0, 0) _ rfl (set5_row (unhide HG) _ _ _ _ _) Tryd.underlying24 rfl size_pat) rfl ⟨rfl, set5_below (unhide HB) (Nat.le_refl _) _ _ _ _ _⟩
set_option maxRecDepth 100000 in
set_option maxHeartbeats 1000000 in
theorem simpler_none (w : World) : Calls Tryd.prog 21 #[.agg #[.int .i64 2, .string ⟨#[]⟩, .int .i64 0, .string ⟨#[]⟩, .slice none 0 0]] w fun e w' => e = .returned (.agg #[.int .i64 1, .string ⟨#[]⟩, .int .i64 0, .string ⟨#[]⟩, .slice none 0 0]) ∧ Below w.heap.size w w' := by
  go_enter Tryd.func21, Tryd.ntmps21
  go_wp2_with fail
  obtain ⟨W, hW⟩ : ∃ W, W = (w.alloc (pat5 (.int .i64 2) (.string ⟨#[]⟩) (.int .i64 0) (.string ⟨#[]⟩) (.slice none 0 0))).alloc (pat5 (.int .i64 0) (.string ⟨#[]⟩) (.int .i64 0) (.string ⟨#[]⟩) (.slice none 0 0)) := ⟨_, rfl⟩
  have hb : Below w.heap.size w W := by rw [hW]; exact ((Below.refl _ _).alloc (Nat.le_refl _) _).alloc (by simp) _
  have g0 : W.heap[w.heap.size]? = some (pat5 (.int .i64 2) (.string ⟨#[]⟩) (.int .i64 0) (.string ⟨#[]⟩) (.slice none 0 0)) := by rw [hW]; exact at_keep3 (at_new rfl)
  have g1 : W.heap[w.heap.size + 1]? = some (pat5 (.int .i64 0) (.string ⟨#[]⟩) (.int .i64 0) (.string ⟨#[]⟩) (.slice none 0 0)) := by rw [hW]; exact at_new (by simp)
  obtain ⟨y0, y1, y2, y3, y4⟩ := box5 g0
  have HG := hide (And.intro g1 hb)
  have HWW := hide hW
  go_loopw [10] (fun i wr => i = .int .i64 0 ∧ wr = W) (fun _ _ => 0)
  case atStart => exact ⟨rfl, (unhide HWW).symm⟩
  case round =>
    obtain ⟨rfl, rfl⟩ := hrel
    clear g0 g1 hb hW HWW
    go_wp2_with fail
    refine (counted_none _).mono ?_
    rintro e w1 ⟨rfl, hb1⟩
    have HB := hide (bnext (unhide HG).2 hb1)
    have g1 := row_below (unhide HG).1 hb1
    clear y0 y1 y2 y3 y4
    obtain ⟨y0, y1, y2, y3, y4⟩ := box5 g1
    obtain ⟨f0, f1, f2, f3, f4⟩ := pat5_free g1
    have HG1 := hide g1
    clear hb1 g1
    go_wp2_with fail
    exact bodyPost_ret (results_cell_row rfl _ _ (w.heap.size + 1) 24 (litV ⟨#[]⟩) (0, 0) _ rfl (set5_row (unhide HG1) _ _ _ _ _) Tryd.underlying24 rfl size_pat) rfl ⟨rfl, set5_below (unhide HB) (by omega) _ _ _ _ _⟩
theorem results_pat {fn : Func} {p u : Tmp} (h : fn.results = #[.cell p 24, .tmp u]) (tmps : Array Value) (w : World) (g : Nat) (cs : Array Value)
    (hp : tmps.getD p undef = .pointer (some ⟨g, 0, none⟩)) (hg : w.heap[g]? = some (.cells cs 24 (0, 0))) (hi : (Tryd.prog.info? 24).map (·.size) = some cs.size) :
    (results fn tmps).run Tryd.prog w = .ok (.tuple #[.agg cs, tmps.getD u undef]) w := by
  have hp' : tmps[p]?.getD undef = .pointer (some ⟨g, 0, none⟩) := by simpa using hp
  have hl := run_loadVar_row w g 24 24 cs (0, 0) _ hg Tryd.underlying24 rfl hi
  rw [results_cell_tmp h]
  simp [hp', asAddr, hl]
/-- A node alone. -/
def alone (k : Int) (t : ByteArray) : PT := ⟨k, t, 0, ⟨#[]⟩, none, 0, 0, 0, 0, fun i => i.elim0⟩
theorem alone_in {w : World} {k : Int} {t : ByteArray} (hk : -9223372036854775808 ≤ k ∧ k ≤ 9223372036854775807) (h : t.size ≤ maxLen) : (alone k t).In w :=
  ⟨hk, h, (by decide), (by unfold maxLen; decide), Nat.zero_le _, Nat.le_refl _, (fun h => absurd h (by decide)), fun i => i.elim0⟩
theorem alone_wrong : (alone 2 ⟨#[]⟩).wrong = 0 := by decide
theorem alone_len : lenOf (alone 1 ⟨#[97, 98, 99]⟩) = (3, 3, 0) := by decide
set_option maxRecDepth 100000 in
set_option maxHeartbeats 1000000 in
theorem simplify_none (w : World) (hS : Shapes w) : Calls Tryd.prog 7 #[.agg #[.int .i64 2, .string ⟨#[]⟩, .int .i64 0, .string ⟨#[]⟩, .slice none 0 0]] w fun e w' => e = .returned (.tuple #[.agg #[.int .i64 1, .string ⟨#[]⟩, .int .i64 0, .string ⟨#[]⟩, .slice none 0 0], .int .i64 0]) ∧ Below w.heap.size w w' := by
  have HW := hide (fun W (h : Below w.heap.size w W) => show Calls Tryd.prog 19 #[.agg #[.int .i64 2, .string ⟨#[]⟩, .int .i64 0, .string ⟨#[]⟩, .slice none 0 0]] W fun e w' => e = .returned (.int .i64 0) ∧ Below W.heap.size W w' from by
    have h := wrong_any (alone 2 ⟨#[]⟩) W (alone_in (by decide) (by unfold maxLen; decide)) (hS.later h)
    rw [alone_wrong] at h
    exact h)
  clear hS
  go_enter Tryd.func7, Tryd.ntmps7
  go_wp2_with fail
  refine (unhide HW _ (((Below.refl _ _).alloc (Nat.le_refl _) _).alloc (by simp) _)).mono ?_
  rintro e w1 ⟨rfl, hb1⟩
  have HB := hide (bnext (((Below.refl w.heap.size w).alloc (Nat.le_refl _) _).alloc (by simp) _) hb1)
  have g0 : w1.heap[w.heap.size]? = some (pat5 (.int .i64 2) (.string ⟨#[]⟩) (.int .i64 0) (.string ⟨#[]⟩) (.slice none 0 0)) := row_below (at_keep3 (at_new rfl)) hb1
  have g1 : w1.heap[w.heap.size + 1]? = some (pat5 (.int .i64 0) (.string ⟨#[]⟩) (.int .i64 0) (.string ⟨#[]⟩) (.slice none 0 0)) := row_below (at_new (by simp)) hb1
  obtain ⟨y0, y1, y2, y3, y4⟩ := box5 g0
  have HG := hide g1
  clear hb1 g1 g0
  go_wp2_with fail
  refine (simpler_none _).mono ?_
  rintro e w2 ⟨rfl, hb2⟩
  have HB2 := hide (bnext (unhide HB) hb2)
  have g2 := row_below (unhide HG) hb2
  clear y0 y1 y2 y3 y4
  obtain ⟨y0, y1, y2, y3, y4⟩ := box5 g2
  obtain ⟨f0, f1, f2, f3, f4⟩ := pat5_free g2
  have HG2 := hide g2
  clear hb2 g2
  go_wp2_with fail
  exact bodyPost_ret (results_pat rfl _ _ (w.heap.size + 1) (litV ⟨#[]⟩) rfl (set5_row (unhide HG2) _ _ _ _ _) size_pat) rfl ⟨rfl, set5_below (unhide HB2) (by omega) _ _ _ _ _⟩
set_option maxRecDepth 100000 in
set_option maxHeartbeats 1000000 in
theorem alive6 (w : World) (hS : Shapes w) : Calls Tryd.prog 14 #[] w fun e w' => e = .returned (.bool true) ∧ Below w.heap.size w w' := by
  have HW := hide (fun W (h : Below w.heap.size w W) => show Calls Tryd.prog 10 #[.agg #[.int .i64 1, .string ⟨#[97, 98, 99]⟩, .int .i64 0, .string ⟨#[]⟩, .slice none 0 0]] W fun e w' => e = .returned (.tuple #[.int .i64 3, .int .i64 3, .int .i64 0]) ∧ Below W.heap.size W w' from by
    have h := length_of (alone 1 ⟨#[97, 98, 99]⟩) (fun w _ _ => ext_k1 _ rfl w) W (alone_in (by decide) (by unfold maxLen; decide)) (hS.later h)
    rw [alone_len] at h
    exact h)
  have HS := hide (simplify_none w hS)
  clear hS
  go_enter Tryd.func14, Tryd.ntmps14
  go_wp2_with fail
  refine (unhide HS).mono ?_
  rintro e w1 ⟨rfl, hb1⟩
  have HB := hide hb1
  clear hb1
  go_wp2_with fail
  refine (unhide HW _ ((unhide HB).alloc (unhide HB).size _)).mono ?_
  rintro e w2 ⟨rfl, hb2⟩
  have g1 : w2.heap[w1.heap.size]? = some (pat5 (.int .i64 1) (.string ⟨#[]⟩) (.int .i64 0) (.string ⟨#[]⟩) (.slice none 0 0)) := row_below (at_new rfl) hb2
  obtain ⟨y0, y1, y2, y3, y4⟩ := box5 g1
  have HB2 := hide (bnext ((unhide HB).alloc (unhide HB).size _) hb2)
  clear hb2 g1
  go_wp2_with fail
  go_ret
  exact ⟨rfl, unhide HB2⟩
end Go.Proofs.YtbmngbpillihaaaDoor
