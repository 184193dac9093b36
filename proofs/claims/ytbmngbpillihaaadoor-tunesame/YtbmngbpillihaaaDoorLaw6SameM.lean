/- tune.Length of any pattern. What is asked first of tune: a closed fact. The table of kinds, out of what the row lists. A pattern that came in, opened: its nodes lie in memory, and there are no more of them than the reading has values. A pattern, and rules, that came in, opened. What strconv.Itoa answers of a place. What the laws of tune ask of the tables: how numbers are written. What is simpler matches the same: TuneSame is true of any rules, any pattern, any text and place. -/
import Derived.Test.YtbmngbpillihaaaDoorExtWalkP
import Derived.Test.YtbmngbpillihaaaDoorScanRootsM
import Derived.Test.YtbmngbpillihaaaDoorRows
import Derived.Test.YtbmngbpillihaaaDoorPatWrongP
import Derived.ProofKit
import Derived.OpenShut
import Derived.LaidLaws
import Derived.Lib.LaidTab
import Derived.Test.YtbmngbpillihaaaDoorPatNamedM
import Derived.Deep.Slices
import Derived.Test.YtbmngbpillihaaaDoorScanWrongRM
import Derived.WalkKit
import Derived.Shelf.Strconv.Itoa0
import Derived.Shelf.Strconv.Itoa1
import Derived.Shelf.LaysM
import Derived.Shelf.Strconv.Itoa2
import Derived.Shelf.Strconv.Itoa3
import Derived.Test.YtbmngbpillihaaaDoorProg
import Derived.Lib.AppendIntMem
import Derived.Test.YtbmngbpillihaaaDoorScanCallRP
import Derived.Test.YtbmngbpillihaaaDoorScanNextP
import Derived.BigRegion
import Derived.Deep.QuietTactic
import Derived.BigQuiet
import Derived.Deep.OwnRows
import Derived.Test.YtbmngbpillihaaaDoorScanWaysRP
import Derived.Laws.ResultCell
import Derived.Deep.DeepHandedRow
import Derived.Stop.LaidErr
import Derived.Test.YtbmngbpillihaaaDoorSimpEndP
import Derived.Test.YtbmngbpillihaaaDoorSimpTopM
namespace Go.Proofs.YtbmngbpillihaaaDoor
open Go.RowKit

def lenOf (T : PT) : Int × Int × Int := if T.wrong = 0 then (if T.ext.1 = false then (0, 0, 6) else (T.ext.2.1, T.ext.2.2, 0)) else (0, 0, T.wrong)
theorem box5 {w : World} {z : Nat} {v0 v1 v2 v3 v4 : Value} (h : w.heap[z]? = some (.cells #[v0, v1, v2, v3, v4] 24 (0, 0))) :
    w.cell? ⟨z, 0, none⟩ = some v0 ∧ w.cell? ⟨z, 1, none⟩ = some v1 ∧ w.cell? ⟨z, 2, none⟩ = some v2 ∧ w.cell? ⟨z, 3, none⟩ = some v3 ∧ w.cell? ⟨z, 4, none⟩ = some v4 :=
  ⟨(cell_of_row w _ _ _ _ _ h).trans rfl, (cell_of_row w _ _ _ _ _ h).trans rfl, (cell_of_row w _ _ _ _ _ h).trans rfl, (cell_of_row w _ _ _ _ _ h).trans rfl, (cell_of_row w _ _ _ _ _ h).trans rfl⟩
set_option maxRecDepth 100000 in
set_option maxHeartbeats 1000000 in
theorem length_of (T : PT) (hE : ExtSays T) (w : World) (hT : T.In w) (hS : Shapes w) :
    Calls Tryd.prog 10 #[pv T] w fun e w' => e = .returned (.tuple #[.int .i64 (lenOf T).1, .int .i64 (lenOf T).2.1, .int .i64 (lenOf T).2.2]) ∧ Below w.heap.size w w' := by
  have HW := hide (fun W (h : Below w.heap.size w W) => wrong_any T W (PT.In.later h hT) (hS.later h))
  by_cases hq : T.wrong = 0
  · have HF := hide (fun W (h : Below w.heap.size w W) => hE W (PT.In.later h hT) (right_of hq).1)
    have he : lenOf T = if T.ext.1 = false then (0, 0, 6) else (T.ext.2.1, T.ext.2.2, 0) := by unfold lenOf; rw [if_pos hq]
    rw [he]
    rw [hq] at HW
    obtain ⟨x, hx⟩ : ∃ x, x = T.ext := ⟨_, rfl⟩
    rw [← hx] at HF ⊢
    obtain ⟨x0, x1, x2⟩ := x
    unfold pv at HW HF ⊢
    clear hT hS hq he hx hE
    cases x0 with
    | false =>
      rw [if_pos rfl]
      dsimp only
      go_enter Tryd.func10, Tryd.ntmps10
      go_wp2_with fail
      refine (unhide HW _ ((Below.refl _ _).alloc (Nat.le_refl _) _)).mono ?_
      rintro e w1 ⟨rfl, hb1⟩
      have g1 := row_below (at_new (w := w) (o := .cells #[.int .i64 T.k, .string T.t, .int .i64 T.n, .string T.nm, .slice T.xa T.len T.cap] 24) rfl) hb1
      have HB := hide (bnext ((Below.refl w.heap.size w).alloc (Nat.le_refl _) _) hb1)
      obtain ⟨y0, y1, y2, y3, y4⟩ := box5 g1
      clear hb1 g1
      go_wp2_with fail
      refine (unhide HF _ (unhide HB)).mono ?_
      rintro e w2 ⟨rfl, hb2⟩
      unfold exV
      have HB2 := hide (bnext (unhide HB) hb2)
      clear hb2 y0 y1 y2 y3 y4
      go_wp2_with fail
      go_ret3
      exact ⟨rfl, (unhide HB2).alloc (unhide HB2).size _⟩
    | true =>
      rw [if_neg (by simp)]
      dsimp only
      go_enter Tryd.func10, Tryd.ntmps10
      go_wp2_with fail
      refine (unhide HW _ ((Below.refl _ _).alloc (Nat.le_refl _) _)).mono ?_
      rintro e w1 ⟨rfl, hb1⟩
      have g1 := row_below (at_new (w := w) (o := .cells #[.int .i64 T.k, .string T.t, .int .i64 T.n, .string T.nm, .slice T.xa T.len T.cap] 24) rfl) hb1
      have HB := hide (bnext ((Below.refl w.heap.size w).alloc (Nat.le_refl _) _) hb1)
      obtain ⟨y0, y1, y2, y3, y4⟩ := box5 g1
      clear hb1 g1
      go_wp2_with fail
      refine (unhide HF _ (unhide HB)).mono ?_
      rintro e w2 ⟨rfl, hb2⟩
      unfold exV
      have HB2 := hide (bnext (unhide HB) hb2)
      clear hb2 y0 y1 y2 y3 y4
      go_wp2_with fail
      go_quiet (fail)
      go_wp2_with fail
      go_ret3
      exact ⟨rfl, below_drewN ((unhide HB2).alloc (unhide HB2).size _) _⟩
  · have he : lenOf T = (0, 0, T.wrong) := by unfold lenOf; rw [if_neg hq]
    rw [he]
    unfold pv at HW ⊢
    obtain ⟨e0, h0⟩ : ∃ e0, e0 = T.wrong := ⟨_, rfl⟩
    rw [← h0] at HW hq ⊢
    have hne : (e0 == 0) = false := by rw [beq_eq_false_iff_ne]; exact hq
    have hne' : (e0 != 0) = true := by rw [bne_iff_ne]; exact hq
    clear hT hS he h0
    dsimp only
    go_enter Tryd.func10, Tryd.ntmps10
    go_wp2_with fail
    refine (unhide HW _ ((Below.refl _ _).alloc (Nat.le_refl _) _)).mono ?_
    rintro e w1 ⟨rfl, hb1⟩
    have HB := hide (bnext ((Below.refl w.heap.size w).alloc (Nat.le_refl _) _) hb1)
    clear hb1
    go_wp2_with fail
    go_ret3
    exact ⟨rfl, unhide HB⟩
end Go.Proofs.YtbmngbpillihaaaDoor

namespace Go.Proofs.YtbmngbpillihaaaDoor
open Go.RowKit

def pat5 (v0 v1 v2 v3 v4 : Value) : Obj := .cells #[v0, v1, v2, v3, v4] 24 (0, 0)
def set5 (w : World) (z : Nat) (v0 v1 v2 v3 v4 : Value) : World := ((((w.setCell ⟨z, 0, none⟩ v0).setCell ⟨z, 1, none⟩ v1).setCell ⟨z, 2, none⟩ v2).setCell ⟨z, 3, none⟩ v3).setCell ⟨z, 4, none⟩ v4
theorem set5_row {w : World} {z : Nat} {c0 c1 c2 c3 c4 : Value} (h : w.heap[z]? = some (pat5 c0 c1 c2 c3 c4)) (v0 v1 v2 v3 v4 : Value) : (set5 w z v0 v1 v2 v3 v4).heap[z]? = some (pat5 v0 v1 v2 v3 v4) := by
  have h0 : (w.setCell ⟨z, 0, none⟩ v0).heap[z]? = some (pat5 v0 c1 c2 c3 c4) := heap_setCell_same _ z 0 _ _ v0 h
  have h1 : ((w.setCell ⟨z, 0, none⟩ v0).setCell ⟨z, 1, none⟩ v1).heap[z]? = some (pat5 v0 v1 c2 c3 c4) := heap_setCell_same _ z 1 _ _ v1 h0
  have h2 : (((w.setCell ⟨z, 0, none⟩ v0).setCell ⟨z, 1, none⟩ v1).setCell ⟨z, 2, none⟩ v2).heap[z]? = some (pat5 v0 v1 v2 c3 c4) := heap_setCell_same _ z 2 _ _ v2 h1
  have h3 : ((((w.setCell ⟨z, 0, none⟩ v0).setCell ⟨z, 1, none⟩ v1).setCell ⟨z, 2, none⟩ v2).setCell ⟨z, 3, none⟩ v3).heap[z]? = some (pat5 v0 v1 v2 v3 c4) := heap_setCell_same _ z 3 _ _ v3 h2
  exact heap_setCell_same _ z 4 _ _ v4 h3
theorem set5_below {a w : World} (h : Below a.heap.size a w) {z : Nat} (hz : a.heap.size ≤ z) (v0 v1 v2 v3 v4 : Value) : Below a.heap.size a (set5 w z v0 v1 v2 v3 v4) :=
  But.below h ((((((But.refl z w).setCell 0 v0).setCell 1 v1).setCell 2 v2).setCell 3 v3).setCell 4 v4) hz
theorem pat5_free {w : World} {z : Nat} {c0 c1 c2 c3 c4 : Value} (h : w.heap[z]? = some (pat5 c0 c1 c2 c3 c4)) : w.frozen? ⟨z, 0, none⟩ = false ∧ w.frozen? ⟨z, 1, none⟩ = false ∧ w.frozen? ⟨z, 2, none⟩ = false ∧ w.frozen? ⟨z, 3, none⟩ = false ∧ w.frozen? ⟨z, 4, none⟩ = false :=
  ⟨frozen_of_row w z 0 _ _ h, frozen_of_row w z 1 _ _ h, frozen_of_row w z 2 _ _ h, frozen_of_row w z 3 _ _ h, frozen_of_row w z 4 _ _ h⟩
def litV (t : ByteArray) : Array Value := #[.int .i64 1, .string t, .int .i64 0, .string ⟨#[]⟩, .slice none 0 0]
set_option maxRecDepth 100000 in
set_option maxHeartbeats 1000000 in
theorem literal_any (t : ByteArray) (w : World) : Calls Tryd.prog 40 #[.string t] w fun e w' => e = .returned (.agg #[.int .i64 1, .string t, .int .i64 0, .string ⟨#[]⟩, .slice none 0 0]) ∧ Below w.heap.size w w' := by
  go_enter Tryd.func40, Tryd.ntmps40
  go_wp2_with fail
  exact bodyPost_ret (results_cell_row rfl _ _ w.heap.size 24 (litV t) (0, 0) _ rfl (at_new rfl) Tryd.underlying24 rfl size_pat) rfl ⟨rfl, (Below.refl _ _).alloc (Nat.le_refl _) _⟩
set_option maxRecDepth 100000 in
set_option maxHeartbeats 1000000 in
theorem counted_none (w : World) : Calls Tryd.prog 45 #[.int .i64 2, .int .i64 0] w fun e w' => e = .returned (.agg #[.int .i64 1, .string ⟨#[]⟩, .int .i64 0, .string ⟨#[]⟩, .slice none 0 0]) ∧ Below w.heap.size w w' := by
  go_enter Tryd.func45, Tryd.ntmps45
  go_wp2_with fail
  refine (literal_any _ _).mono ?_
  rintro e w1 ⟨rfl, hb1⟩
  have HB := hide (bnext ((Below.refl w.heap.size w).alloc (Nat.le_refl _) _) hb1)
  have g1 : w1.heap[w.heap.size]? = some (pat5 (.int .i64 0) (.string ⟨#[]⟩) (.int .i64 0) (.string ⟨#[]⟩) (.slice none 0 0)) := row_below (at_new rfl) hb1
  obtain ⟨y0, y1, y2, y3, y4⟩ := box5 g1
  obtain ⟨f0, f1, f2, f3, f4⟩ := pat5_free g1
  have HG := hide g1
  clear hb1 g1
  go_wp2_with fail
  exact bodyPost_ret (results_cell_row rfl _ _ w.heap.size 24 (litV ⟨#[]⟩) (0, 0) _ rfl (set5_row (unhide HG) _ _ _ _ _) Tryd.underlying24 rfl size_pat) rfl ⟨rfl, set5_below (unhide HB) (Nat.le_refl _) _ _ _ _ _⟩
set_option maxRecDepth 100000 in
set_option maxHeartbeats 1000000 in
theorem simpler_none (w : World) : Calls Tryd.prog 21 #[.agg #[.int .i64 2, .string ⟨#[]⟩, .int .i64 0, .string ⟨#[]⟩, .slice none 0 0]] w fun e w' => e = .returned (.agg #[.int .i64 1, .string ⟨#[]⟩, .int .i64 0, .string ⟨#[]⟩, .slice none 0 0]) ∧ Below w.heap.size w w' := by
  go_enter Tryd.func21, Tryd.ntmps21
  go_wp2_with fail
  obtain ⟨W, hW⟩ : ∃ W, W = (w.alloc (pat5 (.int .i64 2) (.string ⟨#[]⟩) (.int .i64 0) (.string ⟨#[]⟩) (.slice none 0 0))).alloc (pat5 (.int .i64 0) (.string ⟨#[]⟩) (.int .i64 0) (.string ⟨#[]⟩) (.slice none 0 0)) := ⟨_, rfl⟩
  have hb : Below w.heap.size w W := by rw [hW]; exact ((Below.refl _ _).alloc (Nat.le_refl _) _).alloc (by simp) _
  have g0 : W.heap[w.heap.size]? = some (pat5 (.int .i64 2) (.string ⟨#[]⟩) (.int .i64 0) (.string ⟨#[]⟩) (.slice none 0 0)) := by rw [hW]; exact at_keep3 (at_new rfl)
  have g1 : W.heap[w.heap.size + 1]? = some (pat5 (.int .i64 0) (.string ⟨#[]⟩) (.int .i64 0) (.string ⟨#[]⟩) (.slice none 0 0)) := by rw [hW]; exact at_new (by simp)
  obtain ⟨y0, y1, y2, y3, y4⟩ := box5 g0
  have HG := hide (And.intro g1 hb)
  have HWW := hide hW
  go_loopw [10] (fun i wr => i = .int .i64 0 ∧ wr = W) (fun _ _ => 0)
  case atStart => exact ⟨rfl, (unhide HWW).symm⟩
  case round =>
    obtain ⟨rfl, rfl⟩ := hrel
    clear g0 g1 hb hW HWW
    go_wp2_with fail
    refine (counted_none _).mono ?_
    rintro e w1 ⟨rfl, hb1⟩
    have HB := hide (bnext (unhide HG).2 hb1)
    have g1 := row_below (unhide HG).1 hb1
    clear y0 y1 y2 y3 y4
    obtain ⟨y0, y1, y2, y3, y4⟩ := box5 g1
    obtain ⟨f0, f1, f2, f3, f4⟩ := pat5_free g1
    have HG1 := hide g1
    clear hb1 g1
    go_wp2_with fail
    exact bodyPost_ret (results_cell_row rfl _ _ (w.heap.size + 1) 24 (litV ⟨#[]⟩) (0, 0) _ rfl (set5_row (unhide HG1) _ _ _ _ _) Tryd.underlying24 rfl size_pat) rfl ⟨rfl, set5_below (unhide HB) (by omega) _ _ _ _ _⟩
theorem results_pat {fn : Func} {p u : Tmp} (h : fn.results = #[.cell p 24, .tmp u]) (tmps : Array Value) (w : World) (g : Nat) (cs : Array Value)
    (hp : tmps.getD p undef = .pointer (some ⟨g, 0, none⟩)) (hg : w.heap[g]? = some (.cells cs 24 (0, 0))) (hi : (Tryd.prog.info? 24).map (·.size) = some cs.size) :
    (results fn tmps).run Tryd.prog w = .ok (.tuple #[.agg cs, tmps.getD u undef]) w := by
  have hp' : tmps[p]?.getD undef = .pointer (some ⟨g, 0, none⟩) := by simpa using hp
  have hl := run_loadVar_row w g 24 24 cs (0, 0) _ hg Tryd.underlying24 rfl hi
  rw [results_cell_tmp h]
  simp [hp', asAddr, hl]
def alone (k : Int) (t : ByteArray) : PT := ⟨k, t, 0, ⟨#[]⟩, none, 0, 0, 0, 0, fun i => i.elim0⟩
theorem alone_in {w : World} {k : Int} {t : ByteArray} (hk : -9223372036854775808 ≤ k ∧ k ≤ 9223372036854775807) (h : t.size ≤ maxLen) : (alone k t).In w :=
  ⟨hk, h, (by decide), (by unfold maxLen; decide), Nat.zero_le _, Nat.le_refl _, (fun h => absurd h (by decide)), fun i => i.elim0⟩
theorem alone_wrong : (alone 2 ⟨#[]⟩).wrong = 0 := by decide
theorem alone_len : lenOf (alone 1 ⟨#[97, 98, 99]⟩) = (3, 3, 0) := by decide
set_option maxRecDepth 100000 in
set_option maxHeartbeats 1000000 in
theorem simplify_none (w : World) (hS : Shapes w) : Calls Tryd.prog 7 #[.agg #[.int .i64 2, .string ⟨#[]⟩, .int .i64 0, .string ⟨#[]⟩, .slice none 0 0]] w fun e w' => e = .returned (.tuple #[.agg #[.int .i64 1, .string ⟨#[]⟩, .int .i64 0, .string ⟨#[]⟩, .slice none 0 0], .int .i64 0]) ∧ Below w.heap.size w w' := by
  have HW := hide (fun W (h : Below w.heap.size w W) => show Calls Tryd.prog 19 #[.agg #[.int .i64 2, .string ⟨#[]⟩, .int .i64 0, .string ⟨#[]⟩, .slice none 0 0]] W fun e w' => e = .returned (.int .i64 0) ∧ Below W.heap.size W w' from by
    have h := wrong_any (alone 2 ⟨#[]⟩) W (alone_in (by decide) (by unfold maxLen; decide)) (hS.later h)
    rw [alone_wrong] at h
    exact h)
  clear hS
  go_enter Tryd.func7, Tryd.ntmps7
  go_wp2_with fail
  refine (unhide HW _ (((Below.refl _ _).alloc (Nat.le_refl _) _).alloc (by simp) _)).mono ?_
  rintro e w1 ⟨rfl, hb1⟩
  have HB := hide (bnext (((Below.refl w.heap.size w).alloc (Nat.le_refl _) _).alloc (by simp) _) hb1)
  have g0 : w1.heap[w.heap.size]? = some (pat5 (.int .i64 2) (.string ⟨#[]⟩) (.int .i64 0) (.string ⟨#[]⟩) (.slice none 0 0)) := row_below (at_keep3 (at_new rfl)) hb1
  have g1 : w1.heap[w.heap.size + 1]? = some (pat5 (.int .i64 0) (.string ⟨#[]⟩) (.int .i64 0) (.string ⟨#[]⟩) (.slice none 0 0)) := row_below (at_new (by simp)) hb1
  obtain ⟨y0, y1, y2, y3, y4⟩ := box5 g0
  have HG := hide g1
  clear hb1 g1 g0
  go_wp2_with fail
  refine (simpler_none _).mono ?_
  rintro e w2 ⟨rfl, hb2⟩
  have HB2 := hide (bnext (unhide HB) hb2)
  have g2 := row_below (unhide HG) hb2
  clear y0 y1 y2 y3 y4
  obtain ⟨y0, y1, y2, y3, y4⟩ := box5 g2
  obtain ⟨f0, f1, f2, f3, f4⟩ := pat5_free g2
  have HG2 := hide g2
  clear hb2 g2
  go_wp2_with fail
  exact bodyPost_ret (results_pat rfl _ _ (w.heap.size + 1) (litV ⟨#[]⟩) rfl (set5_row (unhide HG2) _ _ _ _ _) size_pat) rfl ⟨rfl, set5_below (unhide HB2) (by omega) _ _ _ _ _⟩
set_option maxRecDepth 100000 in
set_option maxHeartbeats 1000000 in
theorem alive6 (w : World) (hS : Shapes w) : Calls Tryd.prog 14 #[] w fun e w' => e = .returned (.bool true) ∧ Below w.heap.size w w' := by
  have HW := hide (fun W (h : Below w.heap.size w W) => show Calls Tryd.prog 10 #[.agg #[.int .i64 1, .string ⟨#[97, 98, 99]⟩, .int .i64 0, .string ⟨#[]⟩, .slice none 0 0]] W fun e w' => e = .returned (.tuple #[.int .i64 3, .int .i64 3, .int .i64 0]) ∧ Below W.heap.size W w' from by
    have h := length_of (alone 1 ⟨#[97, 98, 99]⟩) (fun w _ _ => ext_k1 _ rfl w) W (alone_in (by decide) (by unfold maxLen; decide)) (hS.later h)
    rw [alone_len] at h
    exact h)
  have HS := hide (simplify_none w hS)
  clear hS
  go_enter Tryd.func14, Tryd.ntmps14
  go_wp2_with fail
  refine (unhide HS).mono ?_
  rintro e w1 ⟨rfl, hb1⟩
  have HB := hide hb1
  clear hb1
  go_wp2_with fail
  refine (unhide HW _ ((unhide HB).alloc (unhide HB).size _)).mono ?_
  rintro e w2 ⟨rfl, hb2⟩
  have g1 : w2.heap[w1.heap.size]? = some (pat5 (.int .i64 1) (.string ⟨#[]⟩) (.int .i64 0) (.string ⟨#[]⟩) (.slice none 0 0)) := row_below (at_new rfl) hb2
  obtain ⟨y0, y1, y2, y3, y4⟩ := box5 g1
  have HB2 := hide (bnext ((unhide HB).alloc (unhide HB).size _) hb2)
  clear hb2 g1
  go_wp2_with fail
  go_ret
  exact ⟨rfl, unhide HB2⟩
end Go.Proofs.YtbmngbpillihaaaDoor

namespace Go.Proofs.YtbmngbpillihaaaDoor
open Go.ChangeShapes Go.WideShapes Go.ChangeAt Go.RowKit

theorem cells_shape : Tryd.prog.cellsOf 137 = 4 := by kernel_rfl
theorem cells_int4 : Tryd.prog.cellsOf 3 = 1 := by kernel_rfl
theorem cells_str4 : Tryd.prog.cellsOf 9 = 1 := by kernel_rfl
set_option maxRecDepth 100000 in
theorem shape_open {H : Type} {enc : TypeId × Value → H} {W : World} {base m : Nat} {spare : Nat → Bool} {held : Bool} {cs : List Value} {pl : List MemPlace} {s : List UInt8} {h a b : Int}
    (hd : DataW.trod enc Tryd.prog W base spare held m 137 cs = some (.agg [.lit (.string s), .lit (.int .i64 h), .lit (.int .i64 a), .lit (.int .i64 b)], pl)) :
    cs = [.string ⟨s.toArray⟩, .int .i64 h, .int .i64 a, .int .i64 b] := by
  obtain ⟨xs, n, -, hx, hl, hxs, hf⟩ := DataW.trod_struct Tryd.underlying137 hd
  rw [cells_shape] at hl
  replace hxs : xs.length = 4 := hxs
  simp only [Prod.mk.injEq, DataW.agg.injEq] at hx
  match xs, hxs, cs, hl with
  | [x0, x1, x2, x3], _, [c0, c1, c2, c3], _ =>
    have u0 := hf 0 _ rfl
    have u1 := hf 1 _ rfl
    have u2 := hf 2 _ rfl
    have u3 := hf 3 _ rfl
    simp [cells_str4] at u0
    simp [cells_int4] at u1 u2 u3
    obtain ⟨t, hc0, hd0, -⟩ := DataW.trod_string Tryd.underlying9 u0
    obtain ⟨k1, hc1, hd1, -⟩ := DataW.trod_int Tryd.underlying3 u1
    obtain ⟨k2, hc2, hd2, -⟩ := DataW.trod_int Tryd.underlying3 u2
    obtain ⟨k3, hc3, hd3, -⟩ := DataW.trod_int Tryd.underlying3 u3
    simp only [List.cons.injEq, and_true] at hc0 hc1 hc2 hc3
    subst hc0 hc1 hc2 hc3
    have hx1 := hx.1
    rw [hd0, hd1, hd2, hd3] at hx1
    simp only [List.map_cons, List.map_nil, List.cons.injEq, DataW.lit.injEq, Lit.string.injEq, Lit.int.injEq, and_true, true_and] at hx1
    obtain ⟨e0, e1, e2, e3⟩ := hx1
    subst e1 e2 e3
    rw [e0]
theorem shapes_lit (K : Nat) (h1 : 1 ≤ K) (h2 : K ≤ 24) : ∃ l, (Rows.laid_scanfail_pats_shapes (H := Unit)) = .agg l ∧ l[K]? = some (.agg [.lit (.string (wordK K).data.toList), .lit (.int .i64 (hasK K)), .lit (.int .i64 (leastK K)), .lit (.int .i64 (mostK K))]) := by
  refine ⟨_, rfl, ?_⟩
  have h : K = 1 ∨ K = 2 ∨ K = 3 ∨ K = 4 ∨ K = 5 ∨ K = 6 ∨ K = 7 ∨ K = 8 ∨ K = 9 ∨ K = 10 ∨ K = 11 ∨ K = 12 ∨ K = 13 ∨ K = 14 ∨ K = 15 ∨ K = 16 ∨ K = 17 ∨ K = 18 ∨ K = 19 ∨ K = 20 ∨ K = 21 ∨ K = 22 ∨ K = 23 ∨ K = 24 := by omega
  rcases h with rfl | rfl | rfl | rfl | rfl | rfl | rfl | rfl | rfl | rfl | rfl | rfl | rfl | rfl | rfl | rfl | rfl | rfl | rfl | rfl | rfl | rfl | rfl | rfl <;> rfl
set_option maxRecDepth 100000 in
theorem shapes_of {W : World} {rest : List (String × DataW Unit)} (h : laidMet Tryd.prog (("scanfail/pats.shapes", Rows.laid_scanfail_pats_shapes) :: rest) W) : Shapes W := by
  obtain ⟨ps, ⟨g', t', cs, fuel, p, q, hg', ht', hvar, hd, -, -⟩, -⟩ := h
  have hg : Tryd.prog.globalNamed "scanfail/pats.shapes" = some 0 := by kernel_rfl
  have hty : (Tryd.prog.globals[0]?).map (·.type) = some 138 := by kernel_rfl
  obtain rfl := Option.some.inj (hg.symm.trans hg')
  obtain rfl := Option.some.inj (hty.symm.trans ht')
  intro K h1 h2
  obtain ⟨l, hl, hlK⟩ := shapes_lit K h1 h2
  rw [hl] at hd
  obtain ⟨xs, m, -, hx, hcl, hxl, hf⟩ := DataW.trod_array Tryd.underlying138 hd
  simp only [Prod.mk.injEq, DataW.agg.injEq] at hx
  have hK := hf K (by omega)
  rw [cells_shape] at hK
  have hxK : ∃ y, xs[K]? = some y ∧ y.1 = .agg [.lit (.string (wordK K).data.toList), .lit (.int .i64 (hasK K)), .lit (.int .i64 (leastK K)), .lit (.int .i64 (mostK K))] := by
    rw [hx.1, List.getElem?_map] at hlK
    cases hy : xs[K]? with
    | none => rw [hy] at hlK; cases hlK
    | some y => rw [hy] at hlK; exact ⟨y, rfl, Option.some.inj hlK⟩
  obtain ⟨⟨y1, y2⟩, hy, hyd⟩ := hxK
  simp only at hyd
  rw [hy, hyd] at hK
  have hrow := shape_open hK
  have hc : ∀ j, j < 4 → W.cell? ⟨0, K * 4 + j, none⟩ = ((cs.toList.drop (K * 4)).take 4)[j]? := fun j hj => by
    have h3 := World.var?_cell hg hvar (K * 4 + j)
    rw [h3, List.getElem?_take, if_pos hj, List.getElem?_drop, Array.getElem?_toList]
  rw [hrow] at hc
  exact ⟨hc 0 (by omega), hc 1 (by omega), hc 2 (by omega), hc 3 (by omega)⟩
end Go.Proofs.YtbmngbpillihaaaDoor

namespace Go.Proofs.YtbmngbpillihaaaDoor
open Go.ChangeShapes Go.WideShapes Go.ChangeAt Go.RowKit Go.Deep

theorem cells_24 : Tryd.prog.cellsOf 24 = 5 := by kernel_rfl
theorem cells_int : Tryd.prog.cellsOf 3 = 1 := by kernel_rfl
theorem cells_str : Tryd.prog.cellsOf 9 = 1 := by kernel_rfl
theorem cells_sl : Tryd.prog.cellsOf 22 = 1 := by kernel_rfl
theorem bulk_mem {H : Type} : ∀ (l : List (DataW H)) (x : DataW H), x ∈ l → Rows.uptoBulk x ≤ Rows.uptoBulkAll l
  | [], x, h => by simp at h
  | y :: l, x, h => by
    simp only [Rows.uptoBulkAll]
    rcases List.mem_cons.1 h with rfl | h
    · omega
    · have := bulk_mem l x h; omega
theorem bulk_range {H : Type} (D : Nat → DataW H) (f : Nat → Nat) : ∀ n, (∀ i, i < n → f i ≤ Rows.uptoBulk (D i)) → sumTo f n ≤ Rows.uptoBulkAll ((List.range n).map D)
  | 0, _ => Nat.zero_le _
  | n + 1, h => by
    have ih := bulk_range D f n (fun i hi => h i (by omega))
    have hn := h n (by omega)
    have happ : ∀ (a : List (DataW H)) (x : DataW H), Rows.uptoBulkAll (a ++ [x]) = Rows.uptoBulkAll a + Rows.uptoBulk x := by
      intro a x
      induction a with
      | nil => simp [Rows.uptoBulkAll]
      | cons y a iha => simp only [List.cons_append, Rows.uptoBulkAll, iha]; omega
    rw [List.range_succ, List.map_append, List.map_cons, List.map_nil, happ]
    simp only [sumTo]
    omega
set_option maxRecDepth 100000 in
theorem open_pat {H : Type} {enc : TypeId × Value → H} {W : World} : ∀ (N fuel : Nat) (cs : List Value) (d : DataW H) (pl : List MemPlace), Rows.uptoBulk d ≤ N →
    DataW.trod enc Tryd.prog W 0 (fun _ => true) true fuel 24 cs = some (d, pl) →
    ∃ T : PT, T.In W ∧ cs = [.int .i64 T.k, .string T.t, .int .i64 T.n, .string T.nm, .slice T.xa T.len T.cap] ∧ T.cnt ≤ Rows.uptoBulk d := by
  intro N
  induction N with
  | zero =>
    intro fuel cs d pl hN h
    obtain ⟨xs, n, -, hx, -⟩ := DataW.trod_struct Tryd.underlying24 h
    simp only [Prod.mk.injEq] at hx
    rw [hx.1] at hN
    simp [Rows.uptoBulk] at hN
  | succ N ihN =>
    intro fuel cs d pl hN h
    obtain ⟨xs, n, -, hx, hl, hxs, hf⟩ := DataW.trod_struct Tryd.underlying24 h
    rw [cells_24] at hl
    simp only [Prod.mk.injEq] at hx
    obtain ⟨rfl, -⟩ := hx
    replace hxs : xs.length = 5 := hxs
    match xs, hxs, cs, hl with
    | [x0, x1, x2, x3, x4], _, [c0, c1, c2, c3, c4], _ =>
      have u0 := hf 0 _ rfl
      have u1 := hf 1 _ rfl
      have u2 := hf 2 _ rfl
      have u3 := hf 3 _ rfl
      have u4 := hf 4 _ rfl
      simp [cells_int] at u0 u2
      simp [cells_str] at u1 u3
      simp [cells_sl] at u4
      obtain ⟨k, hc0, hd0, hw0⟩ := DataW.trod_int Tryd.underlying3 u0
      obtain ⟨t, hc1, hd1, hs1⟩ := DataW.trod_string Tryd.underlying9 u1
      obtain ⟨m, hc2, hd2, hw2⟩ := DataW.trod_int Tryd.underlying3 u2
      obtain ⟨nm, hc3, hd3, hs3⟩ := DataW.trod_string Tryd.underlying9 u3
      simp only [List.cons.injEq, and_true] at hc0 hc1 hc2 hc3
      subst hc0 hc1 hc2 hc3
      have r0 : -9223372036854775808 ≤ k ∧ k ≤ 9223372036854775807 := by simpa [Lit.wf, show IntKind.i64.min = -9223372036854775808 from rfl] using hw0
      have r2 : -9223372036854775808 ≤ m ∧ m ≤ 9223372036854775807 := by simpa [Lit.wf, show IntKind.i64.min = -9223372036854775808 from rfl] using hw2
      rcases open_slice Tryd.underlying22 u4 with ⟨hc4, hx4⟩ | ⟨a, len, cap, mm, q, D, Pl, hc4, _, hlc, hcm, hmm, hx4, hall⟩
      · simp only [List.cons.injEq, and_true] at hc4
        subst hc4
        refine ⟨.node k t m nm none 0 0 0 0 fun i => i.elim0, ⟨r0, hs1, r2, hs3, Nat.zero_le _, Nat.le_refl _, fun h => absurd h (Nat.lt_irrefl 0), fun i => i.elim0⟩, rfl, ?_⟩
        simp [PT.cnt, sumTo, Rows.uptoBulk]
      · simp only [List.cons.injEq, and_true] at hc4
        subst hc4
        simp only [if_true] at hmm
        rw [cells_24] at hall
        have hel : ∀ i, i < len → ∃ T : PT, T.In W ∧ W.cells? 0 (a.add (i * 5)) 5 = some [.int .i64 T.k, .string T.t, .int .i64 T.n, .string T.nm, .slice T.xa T.len T.cap] ∧ T.cnt ≤ Rows.uptoBulk (D i) := by
          intro i hi
          obtain ⟨cs', h1, h2⟩ := hall i (by omega)
          have hsmall : Rows.uptoBulk (D i) ≤ N := by
            have h3 := bulk_mem ((List.range len).map D) (D i) (List.mem_map.2 ⟨i, List.mem_range.2 hi, rfl⟩)
            rw [hx4] at hN
            simp [Rows.uptoBulk, Rows.uptoBulkAll] at hN
            omega
          obtain ⟨T, hT, hrow, hcnt⟩ := ihN q cs' (D i) (Pl i) hsmall h2
          exact ⟨T, hT, by rw [h1, hrow], hcnt⟩
        obtain ⟨b, o, spot⟩ := a
        have hsp : 0 < len → spot = none := fun hp => by
          obtain ⟨T, -, hc, -⟩ := hel 0 hp
          obtain ⟨-, hlen, hcell⟩ := World.cells?_some hc
          simpa [Addr.add] using World.cell?_spot (hcell 0 (by omega))
        refine ⟨.node k t m nm (some ⟨b, o, spot⟩) b o len cap fun i => (hel i.val i.isLt).choose, ⟨r0, hs1, r2, hs3, by omega, hlc, fun hp => ?_, fun i => ?_⟩, rfl, ?_⟩
        · rw [hsp hp]
        · obtain ⟨i, hi⟩ := i
          obtain ⟨hT, hc, -⟩ := (hel i hi).choose_spec
          show (W.cell? ⟨b, o + i * 5, none⟩ = some (.int .i64 (hel i hi).choose.k) ∧ W.cell? ⟨b, o + i * 5 + 1, none⟩ = some (.string (hel i hi).choose.t) ∧ W.cell? ⟨b, o + i * 5 + 2, none⟩ = some (.int .i64 (hel i hi).choose.n) ∧ W.cell? ⟨b, o + i * 5 + 3, none⟩ = some (.string (hel i hi).choose.nm) ∧ W.cell? ⟨b, o + i * 5 + 4, none⟩ = some (hel i hi).choose.kv) ∧ PT.In W (hel i hi).choose
          generalize (hel i hi).choose = T at hT hc ⊢
          obtain ⟨-, hlen, hcell⟩ := World.cells?_some hc
          obtain rfl := hsp (by omega)
          have hj : ∀ j, (h : j < 5) → W.cell? ⟨b, o + i * 5 + j, none⟩ = [Value.int .i64 T.k, .string T.t, .int .i64 T.n, .string T.nm, .slice T.xa T.len T.cap][j]? := fun j h => by
            have := hcell j h
            rw [Addr.add_lit, Addr.add_lit] at this
            rw [this]
          exact ⟨⟨hj 0 (by omega), hj 1 (by omega), hj 2 (by omega), hj 3 (by omega), hj 4 (by omega)⟩, hT⟩
        · have hsum := bulk_range D (kf len 1 fun i => ((hel i.val i.isLt).choose).cnt) len (fun i hi => by rw [kf_at hi]; exact (hel i hi).choose_spec.2.2)
          rw [hx4]
          simp only [PT.cnt, List.map_cons, List.map_nil, Rows.uptoBulk, Rows.uptoBulkAll]
          omega
end Go.Proofs.YtbmngbpillihaaaDoor

namespace Go.Proofs.YtbmngbpillihaaaDoor
open Go.ChangeShapes Go.WideShapes Go.ChangeAt Go.RowKit Go.Deep

theorem cells_rule : Tryd.prog.cellsOf 117 = 6 := by kernel_rfl
set_option maxRecDepth 100000 in
theorem open_argPat {H : Type} {enc : TypeId × Value → H} {W : World} {base : Nat} {v : Value} {d : DataW H} {p : List MemPlace}
    (hval : Value.okWide Tryd.prog W .any base 24 v) (h : DataW.Trod enc Tryd.prog W 0 (fun _ => true) true 24 v d p) : ∃ T : PT, T.In W ∧ v = pv T := by
  obtain ⟨cs, rfl, hsz⟩ : ∃ cs, v = .agg cs ∧ cs.size = Tryd.prog.cellsOf 24 := by
    simp only [Value.okWide, Tryd.underlying24] at hval
    obtain ⟨cs, h1, h2, _⟩ := hval
    exact ⟨cs, h1, h2⟩
  obtain ⟨fuel, hf⟩ := h
  obtain ⟨T, hT, hrow, -⟩ := open_pat _ fuel _ d p (Nat.le_refl _) hf
  refine ⟨T, hT, ?_⟩
  unfold pv
  have : cs.toList = [.int .i64 T.k, .string T.t, .int .i64 T.n, .string T.nm, .slice T.xa T.len T.cap] := hrow
  rw [← this]
set_option maxRecDepth 100000 in
theorem open_rule {H : Type} {enc : TypeId × Value → H} {W : World} {fuel : Nat} {cs : List Value} {d : DataW H} {pl : List MemPlace} (h : DataW.trod enc Tryd.prog W 0 (fun _ => true) true fuel 117 cs = some (d, pl)) :
    ∃ r : ByteArray × PT, r.1.size ≤ maxLen ∧ r.2.In W ∧ cs = [.string r.1, .int .i64 r.2.k, .string r.2.t, .int .i64 r.2.n, .string r.2.nm, .slice r.2.xa r.2.len r.2.cap] := by
  obtain ⟨xs, n, -, hx, hl, hxs, hf⟩ := DataW.trod_struct Tryd.underlying117 h
  rw [cells_rule] at hl
  replace hxs : xs.length = 2 := hxs
  match xs, hxs, cs, hl with
  | [x0, x1], _, [c0, c1, c2, c3, c4, c5], _ =>
    have u0 := hf 0 _ rfl
    have u1 := hf 1 _ rfl
    simp [cells_str] at u0
    simp [cells_24] at u1
    obtain ⟨nm, hc0, hd0, hs0⟩ := DataW.trod_string Tryd.underlying9 u0
    obtain ⟨T, hT, hrow, -⟩ := open_pat _ n _ x1.1 x1.2 (Nat.le_refl _) u1
    simp only [List.cons.injEq, and_true] at hc0
    subst hc0
    exact ⟨(nm, T), hs0, hT, by rw [hrow]⟩
set_option maxRecDepth 100000 in
theorem open_argRules {H : Type} {enc : TypeId × Value → H} {W : World} {base : Nat} {v : Value} {d : DataW H} {p : List MemPlace}
    (hval : Value.okWide Tryd.prog W .any base 37 v) (h : DataW.Trod enc Tryd.prog W 0 (fun _ => true) true 37 v d p) : ∃ RL : List (ByteArray × PT), RVal W RL v := by
  obtain ⟨a0, n0, c0, rfl⟩ := okWide_slice Tryd.underlying37 hval
  obtain ⟨fuel, hf⟩ := h
  rcases open_slice Tryd.underlying37 (show DataW.trod enc Tryd.prog W 0 (fun _ => true) true fuel 37 [.slice a0 n0 c0] = some (d, p) from hf) with ⟨hc, -⟩ | ⟨a, len, cap, mm, q, D, Pl, hc, _, hlc, hcm, hmm, -, hall⟩
  · simp only [List.cons.injEq, and_true] at hc
    rw [hc]
    exact ⟨[], fun i r h => by simp at h, .inl ⟨rfl, none, 0, rfl⟩⟩
  · simp only [List.cons.injEq, and_true] at hc
    rw [hc]
    simp only [if_true] at hmm
    rw [cells_rule] at hall
    have hel : ∀ i, i < len → ∃ r : ByteArray × PT, (r.1.size ≤ maxLen ∧ r.2.In W) ∧ W.cells? 0 (a.add (i * 6)) 6 = some [.string r.1, .int .i64 r.2.k, .string r.2.t, .int .i64 r.2.n, .string r.2.nm, .slice r.2.xa r.2.len r.2.cap] := by
      intro i hi
      obtain ⟨cs', h1, h2⟩ := hall i (by omega)
      obtain ⟨r, hs, hT, hrow⟩ := open_rule h2
      exact ⟨r, ⟨hs, hT⟩, by rw [h1, hrow]⟩
    by_cases hp : 0 < len
    · obtain ⟨b, o, spot⟩ := a
      have hsp : spot = none := by
        obtain ⟨T, -, hc⟩ := hel 0 hp
        obtain ⟨-, hlen, hcell⟩ := World.cells?_some hc
        simpa [Addr.add] using World.cell?_spot (hcell 0 (by omega))
      subst hsp
      haveI : Inhabited (ByteArray × PT) := ⟨(ByteArray.empty, PT.nul)⟩
      obtain ⟨F, hF⟩ := choose_lt (α := ByteArray × PT) (p := fun i r => (r.1.size ≤ maxLen ∧ r.2.In W) ∧ W.cells? 0 ((⟨b, o, none⟩ : Addr).add (i * 6)) 6 = some [.string r.1, .int .i64 r.2.k, .string r.2.t, .int .i64 r.2.n, .string r.2.nm, .slice r.2.xa r.2.len r.2.cap]) hel
      have hget : ∀ (i : Nat) (r : ByteArray × PT), ((List.range len).map F)[i]? = some r → i < len ∧ r = F i := fun i r hr => by
        rw [List.getElem?_map] at hr
        rcases Nat.lt_or_ge i len with hi | hi
        · rw [List.getElem?_range hi] at hr
          exact ⟨hi, (Option.some.inj hr).symm⟩
        · rw [List.getElem?_eq_none (by simpa using hi)] at hr
          cases hr
      refine ⟨(List.range len).map F, fun i r hr => ?_, .inr ⟨b, o, cap, by simp, by simpa using hlc, fun i r hr => ?_, fun i r hr => ?_⟩⟩
      · obtain ⟨hi, rfl⟩ := hget i r hr
        exact (hF i hi).1.1
      · obtain ⟨hi, rfl⟩ := hget i r hr
        have hc := (hF i hi).2
        generalize F i = r at hc ⊢
        obtain ⟨-, hlen, hcell⟩ := World.cells?_some hc
        have hj : ∀ j, (h : j < 6) → W.cell? ⟨b, o + i * 6 + j, none⟩ = [Value.string r.1, .int .i64 r.2.k, .string r.2.t, .int .i64 r.2.n, .string r.2.nm, .slice r.2.xa r.2.len r.2.cap][j]? := fun j h => by
          have := hcell j h
          rw [Addr.add_lit, Addr.add_lit] at this
          rw [this]
        exact ⟨hj 0 (by omega), hj 1 (by omega), hj 2 (by omega), hj 3 (by omega), hj 4 (by omega), hj 5 (by omega)⟩
      · obtain ⟨hi, rfl⟩ := hget i r hr
        exact (hF i hi).1.2
    · obtain rfl : len = 0 := by omega
      exact ⟨[], fun i r h => by simp at h, .inl ⟨rfl, some a, cap, rfl⟩⟩
end Go.Proofs.YtbmngbpillihaaaDoor

namespace Go.Proofs
open Go.Shelf Go.RowKit Go.Sort Go.Lib
def Tryd.laysM171_ren : Go.Shelf.Ren := ⟨fun | 171 => 97 | 243 => 112 | 246 => 118 | 283 => 120 | 284 => 121 | 285 => 122 | 286 => 123 | 129 => 125 | 317 => 124 | 318 => 126 | 319 => 127 | 320 => 128 | 337 => 129 | 338 => 130 | n => n, fun | 3 => 3 | 9 => 9 | 2 => 2 | 4 => 4 | 171 => 154 | 0 => 0 | 53 => 31 | 37 => 97 | 5 => 5 | 173 => 156 | 212 => 160 | 51 => 161 | 20 => 20 | 213 => 162 | 46 => 152 | 232 => 165 | 233 => 166 | n => n, fun | 17 => 1 | 18 => 2 | 19 => 3 | n => n⟩
theorem Tryd.laysM171 : Go.Proofs.LaysM.n171 Tryd.prog Tryd.laysM171_ren := {
  mixed := by kernel_rfl
  f129 := Tryd.func125.trans (congrArg some (by kernel_rfl))
  f171 := Tryd.func97.trans (congrArg some (by kernel_rfl))
  f243 := Tryd.func112.trans (congrArg some (by kernel_rfl))
  f246 := Tryd.func118.trans (congrArg some (by kernel_rfl))
  f283 := Tryd.func120.trans (congrArg some (by kernel_rfl))
  f284 := Tryd.func121.trans (congrArg some (by kernel_rfl))
  f285 := Tryd.func122.trans (congrArg some (by kernel_rfl))
  f286 := Tryd.func123.trans (congrArg some (by kernel_rfl))
  f317 := Tryd.func124.trans (congrArg some (by kernel_rfl))
  f318 := Tryd.func126.trans (congrArg some (by kernel_rfl))
  f319 := Tryd.func127.trans (congrArg some (by kernel_rfl))
  f320 := Tryd.func128.trans (congrArg some (by kernel_rfl))
  f337 := Tryd.func129.trans (congrArg some (by kernel_rfl))
  f338 := Tryd.func130.trans (congrArg some (by kernel_rfl))
  t0 := Tryd.underlying0
  a0 := Tryd.isAgg0
  z0 := Tryd.sizeOf0
  v0 := Tryd.zeroValue0
  t2 := Tryd.underlying2
  a2 := Tryd.isAgg2
  z2 := Tryd.sizeOf2
  v2 := Tryd.zeroValue2
  t3 := Tryd.underlying3
  a3 := Tryd.isAgg3
  z3 := Tryd.sizeOf3
  v3 := Tryd.zeroValue3
  t4 := Tryd.underlying4
  a4 := Tryd.isAgg4
  z4 := Tryd.sizeOf4
  v4 := Tryd.zeroValue4
  t5 := Tryd.underlying5
  a5 := Tryd.isAgg5
  z5 := Tryd.sizeOf5
  v5 := Tryd.zeroValue5
  t9 := Tryd.underlying9
  a9 := Tryd.isAgg9
  z9 := Tryd.sizeOf9
  v9 := Tryd.zeroValue9
  t20 := Tryd.underlying20
  a20 := Tryd.isAgg20
  z20 := Tryd.sizeOf20
  v20 := Tryd.zeroValue20
  t37 := Tryd.underlying97
  a37 := Tryd.isAgg97
  z37 := Tryd.sizeOf97
  v37 := Tryd.zeroValue97
  t46 := Tryd.underlying152
  a46 := Tryd.isAgg152
  z46 := Tryd.sizeOf152
  v46 := Tryd.zeroValue152
  t51 := Tryd.underlying161
  a51 := Tryd.isAgg161
  z51 := Tryd.sizeOf161
  v51 := Tryd.zeroValue161
  t53 := Tryd.underlying31
  a53 := Tryd.isAgg31
  z53 := Tryd.sizeOf31
  v53 := Tryd.zeroValue31
  t171 := Tryd.underlying154
  a171 := Tryd.isAgg154
  z171 := Tryd.sizeOf154
  v171 := Tryd.zeroValue154
  t173 := Tryd.underlying156
  a173 := Tryd.isAgg156
  z173 := Tryd.sizeOf156
  v173 := Tryd.zeroValue156
  t212 := Tryd.underlying160
  a212 := Tryd.isAgg160
  z212 := Tryd.sizeOf160
  v212 := Tryd.zeroValue160
  t213 := Tryd.underlying162
  a213 := Tryd.isAgg162
  z213 := Tryd.sizeOf162
  t232 := Tryd.underlying165
  a232 := Tryd.isAgg165
  z232 := Tryd.sizeOf165
  v232 := Tryd.zeroValue165
  t233 := Tryd.underlying166
  a233 := Tryd.isAgg166
  z233 := Tryd.sizeOf166
  v233 := Tryd.zeroValue166
  g17 := by kernel_rfl
  g18 := by kernel_rfl
  g19 := by kernel_rfl
  i0 := by kernel_rfl
  i2 := by kernel_rfl
  i3 := by kernel_rfl
  i4 := by kernel_rfl
  i5 := by kernel_rfl
  i9 := by kernel_rfl
  i20 := by kernel_rfl
  i37 := by kernel_rfl
  i46 := by kernel_rfl
  i51 := by kernel_rfl
  i53 := by kernel_rfl
  i171 := by kernel_rfl
  i173 := by kernel_rfl
  i212 := by kernel_rfl
  i232 := by kernel_rfl
  i233 := by kernel_rfl
  m17 := by kernel_rfl
  m18 := by kernel_rfl
  m19 := by kernel_rfl }
theorem Tryd.strconv_Itoa (n : Int) (h0 : -9223372036854775808 ≤ n) (h1 : n ≤ 9223372036854775807) (w : World) (htab : Lib.TabIs Tryd.prog w "internal/strconv.uint64pow10" .u64 Lib.pow10Tab) :
    Calls Tryd.prog 97 #[.int .i64 n] w fun e w' => e = .returned (.string ⟨(Lib.itoa n).toArray⟩) ∧ ∃ k os, w' = grow (w.drewN k) os := Any.strconv_Itoa Tryd.laysM171 n h0 h1 w htab
end Go.Proofs

namespace Go.Proofs.YtbmngbpillihaaaDoor
open Go.RowKit

theorem itoa_any (n : Nat) (hn : n ≤ 1000000) (w : World) (ht : Lib.TabIs Tryd.prog w "internal/strconv.uint64pow10" .u64 Lib.pow10Tab) : Calls Tryd.prog 97 #[.int .i64 (n : Int)] w fun e w' => e = .returned (.string ⟨(Lib.itoa (n : Int)).toArray⟩) ∧ Below w.heap.size w w' := by
  refine (Tryd.strconv_Itoa (n : Int) (by omega) (by omega) w ht).mono ?_
  rintro e w' ⟨rfl, k, os, rfl⟩
  exact ⟨rfl, Lib.below_grow w.heap.size w (Nat.le_refl _) k os⟩
end Go.Proofs.YtbmngbpillihaaaDoor

namespace Go.Proofs.YtbmngbpillihaaaDoor
open Go.RowKit

theorem tab_later {w W : World} {nm : String} {k : IntKind} {zs : List Int} (h : Lib.TabIs Tryd.prog w nm k zs) (hb : Below w.heap.size w W) : Lib.TabIs Tryd.prog W nm k zs := by
  unfold Lib.TabIs World.var? at h ⊢
  cases hg : Tryd.prog.globalNamed nm with
  | none => rw [hg] at h; cases h
  | some g =>
    simp only [hg, Option.bind_some] at h ⊢
    rcases Nat.lt_or_ge g w.heap.size with q | q
    · rw [hb.block g q]; exact h
    · rw [Array.getElem?_eq_none q] at h
      cases h
def dgI (n : Nat) : ByteArray := ⟨(Lib.itoa (n : Int)).toArray⟩
theorem itoa_says {w : World} (h : Lib.TabIs Tryd.prog w "internal/strconv.uint64pow10" .u64 Lib.pow10Tab) : ItoaSays dgI w := fun n hn W hW => itoa_any n (by omega) W (tab_later h hW)
theorem tabs_same {w : World} (h : laidMetH Tryd.prog Rows.tuneSameRow.laid w) : Shapes w ∧ ItoaSays dgI w := by
  have e : (Rows.tuneSameRow.laid.filter fun x => x.2.handleName?.isSome) = [] := by kernel_rfl
  have h' : laidMet Tryd.prog Rows.tuneSameRow.laid w := by
    have hp := h
    unfold laidMetH at hp
    rw [e] at hp
    exact hp
  refine ⟨shapes_of (rest := []) (laidMet.tail (laidMet.tail (laidMet.tail h'))), itoa_says ?_⟩
  exact Lib.tabIs_of_head (g := 1) (t := 160) (e := 31) (n := 20) (by kernel_rfl) (by kernel_rfl) Tryd.underlying160 Tryd.underlying31 (by kernel_rfl) (by kernel_rfl) (rest := _) (show laidMet Tryd.prog (("internal/strconv.uint64pow10", Lib.tabData .u64 Lib.pow10Tab) :: _) w from h'.tail.tail)
end Go.Proofs.YtbmngbpillihaaaDoor

namespace Go.Proofs.YtbmngbpillihaaaDoor
open Go.RowKit

theorem agree_later {w W X : World} {U : PT} (h : ∀ X : World, (∀ i, w.heap.size ≤ i → i < W.heap.size → X.heap[i]? = W.heap[i]?) → U.In X) (hb : Below W.heap.size W X) : U.In X := h X fun i _ b => hb.block i b
set_option maxRecDepth 100000 in
set_option maxHeartbeats 4000000 in
theorem same_right {RL : List (ByteArray × PT)} {rv : Value} {dg : Nat → ByteArray} (T : PT) (s : ByteArray) (i : Int) (w : World) (hV : RVal w RL rv) (hT : T.In w) (hs : s.size ≤ maxLen) (hS : Shapes w) (hIt : ItoaSays dg w) (h : T.wrong = 0) :
    Calls Tryd.prog 4 #[rv, pv T, .string s, .int .i64 i] w fun e w' => e = .returned (.bool true) ∧ Below w.heap.size w w' := by
  have HTw := hide (fun (U : PT) (hU : U.can = T.simp) => (twice_of h (right_of h).1 hU).1)
  have HE := hide (fun (U : PT) (hU : U.can = T.simp) (hw : U.wrong = 0) => ways_simp (RL := RL) (dg := dg) (s := s) (i := i) hU hw)
  have H1 := hide (fun W (hb : Below w.heap.size w W) => simplify_right T W (PT.In.later hb hT) (hS.later hb) h)
  have HAl := hide (fun W (hb : Below w.heap.size w W) => alive6 W (hS.later hb))
  have HY := hide (fun W (hb : Below w.heap.size w W) => ways_any dg T s i 4096 20000 W (hV.later hb) (hIt.later hb) (PT.In.later hb hT) (hS.later hb) hs)
  have HYU := hide (fun (U : PT) W (hb : Below w.heap.size w W) (hU : U.In W) => ways_any dg U s i 4096 20000 W (hV.later hb) (hIt.later hb) hU (hS.later hb) hs)
  have hk0 : Below w.heap.size w (w.alloc (.cells #[.int .i64 T.k, .string T.t, .int .i64 T.n, .string T.nm, .slice T.xa T.len T.cap] 24)) := (Below.refl _ _).alloc (Nat.le_refl _) _
  have gb : (w.alloc (.cells #[.int .i64 T.k, .string T.t, .int .i64 T.n, .string T.nm, .slice T.xa T.len T.cap] 24)).heap[w.heap.size]? = some (.cells #[.int .i64 T.k, .string T.t, .int .i64 T.n, .string T.nm, .slice T.xa T.len T.cap] 24 (0, 0)) := at_new rfl
  have H0 := hide (And.intro hk0 gb)
  unfold pv at H1 HY HYU ⊢
  clear hV hT hs hS hIt h hk0 gb
  go_enter Tryd.func4, Tryd.ntmps4
  go_wp2_with fail
  refine (unhide HAl _ (unhide H0).1).mono ?_
  rintro e w1 ⟨rfl, hb1⟩
  have HB1 := hide (bnext (unhide H0).1 hb1)
  have g1 := row_below (unhide H0).2 hb1
  have G1 := hide g1
  obtain ⟨y0, y1, y2, y3, y4⟩ := pats5s g1
  clear hb1 g1 H0 HAl
  go_wp2_with fail
  refine (unhide H1 _ (unhide HB1)).mono ?_
  rintro e w2 ⟨U, rfl, hU, hUc, hb2⟩
  have HUw := hide (unhide HTw U hUc)
  have HEU := hide (unhide HE U hUc (unhide HUw))
  have HB2 := hide (bnext (unhide HB1) hb2)
  have HUi := hide (fun X (hb : Below w2.heap.size w2 X) => agree_later hU hb)
  have G2 := hide (row_below (unhide G1) hb2)
  have HA2 := hide ((Below.refl w2.heap.size w2).alloc (Nat.le_refl _) (.cells #[.int .i64 U.k, .string U.t, .int .i64 U.n, .string U.nm, .slice U.xa U.len U.cap] 24))
  have gU := at_new (w := w2) (o := (.cells #[.int .i64 U.k, .string U.t, .int .i64 U.n, .string U.nm, .slice U.xa U.len U.cap] 24)) rfl
  obtain ⟨z0, z1, z2, z3, z4⟩ := pats5s (row_below (unhide G2) (unhide HA2))
  have GU := hide gU
  clear hU hUc hb2 y0 y1 y2 y3 y4 G1 H1 HE HTw gU
  go_wp2_with fail
  refine (unhide HY _ (bnext2 (unhide HB2) (unhide HA2))).mono ?_
  rintro e w3 ⟨vl, L, cut, er, rfl, hL, hb3, hLr⟩
  obtain ⟨al, cl, hvl, -, -⟩ := hL.row.len
  subst hvl
  have HB3 := hide (bnext (unhide HA2) hb3)
  have HLL := hide (And.intro hL hLr)
  have g3 := row_below (unhide GU) hb3
  clear z0 z1 z2 z3 z4
  obtain ⟨z0, z1, z2, z3, z4⟩ := pats5s g3
  clear hb3 hL hLr g3 GU G2 HY
  go_wp2_with fail
  refine (unhide HYU U _ (bnext2 (unhide HB2) (unhide HB3)) (unhide HUi _ (unhide HB3))).mono ?_
  rintro e w4 ⟨vl', L', cut', er', rfl, hL', hb4, hLr'⟩
  obtain ⟨al', cl', hvl', -, -⟩ := hL'.row.len
  subst hvl'
  have HB4 := hide (bnext2 (unhide HB2) (bnext (unhide HB3) hb4))
  have HL4 := hide (And.intro (WaysAt.later (unhide HLL).1 hb4) (And.intro hL' hLr'))
  clear hb4 hL' hLr' z0 z1 z2 z3 z4 HYU HUi
  have hLm := (unhide HLL).1.row.max
  unfold maxLen at hLm
  by_cases her : er = 0
  · subst her
    by_cases hfull : L.length = 4096
    · have hfi : (L.length : Int) = 4096 := by omega
      go_wp2_with fail
      go_ret
      exact ⟨rfl, unhide HB4⟩
    · have hfi : ((L.length : Int) == 4096) = false := by rw [beq_eq_false_iff_ne]; omega
      have hle : L.length ≤ 4096 := by
        have := ways_len (RL := RL) (dg := dg) (T := T) (s := s) (i := i)
        rw [← (unhide HLL).2] at this
        rwa [List.length_map] at this
      have hok : allOk (waysOf RL dg T s i 4096 20000) = true := by
        rw [← (unhide HLL).2]
        unfold allOk
        rw [Bool.and_eq_true, decide_eq_true_eq, decide_eq_true_eq]
        exact ⟨rfl, by rw [List.length_map]; omega⟩
      have hEQ := unhide HEU hok
      rw [← (unhide HLL).2, ← (unhide HL4).2.2] at hEQ
      injection hEQ with e1 e2
      injection e2 with e2 e3
      have HS := hide (sameWays_all (unhide HL4).1 (unhide HL4).2.1 e1.symm)
      subst e2 e3
      clear e1 hok hle HEU
      go_wp2_with (go_at_call 16; refine (unhide HS).mono ?_; rintro e w5 ⟨rfl, hb5⟩)
      go_ret
      exact ⟨by simp, bnext (unhide HB4) hb5⟩
  · have hne : (er != 0) = true := by rw [bne_iff_ne]; exact her
    go_wp2_with fail
    go_ret
    exact ⟨rfl, unhide HB4⟩
set_option maxRecDepth 100000 in
set_option maxHeartbeats 2000000 in
theorem same_wrong {rv : Value} (T : PT) (s : ByteArray) (i : Int) (w : World) (hT : T.In w) (hS : Shapes w) (h : T.wrong ≠ 0) :
    Calls Tryd.prog 4 #[rv, pv T, .string s, .int .i64 i] w fun e w' => e = .returned (.bool true) ∧ Below w.heap.size w w' := by
  have q : (T.wrong != 0) = true := by rw [bne_iff_ne]; exact h
  have H1 := hide (fun W (hb : Below w.heap.size w W) => simplify_wrong T W (PT.In.later hb hT) (hS.later hb) h)
  have HAl := hide (fun W (hb : Below w.heap.size w W) => alive6 W (hS.later hb))
  have hk0 : Below w.heap.size w (w.alloc (.cells #[.int .i64 T.k, .string T.t, .int .i64 T.n, .string T.nm, .slice T.xa T.len T.cap] 24)) := (Below.refl _ _).alloc (Nat.le_refl _) _
  have gb := at_new (w := w) (o := (.cells #[.int .i64 T.k, .string T.t, .int .i64 T.n, .string T.nm, .slice T.xa T.len T.cap] 24)) rfl
  have H0 := hide (And.intro hk0 gb)
  unfold pv at H1 ⊢
  clear hT hS h hk0 gb
  generalize T.wrong = c at *
  go_enter Tryd.func4, Tryd.ntmps4
  go_wp2_with fail
  refine (unhide HAl _ (unhide H0).1).mono ?_
  rintro e w1 ⟨rfl, hb1⟩
  have HB1 := hide (bnext (unhide H0).1 hb1)
  have g1 := row_below (unhide H0).2 hb1
  obtain ⟨y0, y1, y2, y3, y4⟩ := pats5s g1
  clear hb1 g1 H0 HAl
  go_wp2_with fail
  refine (unhide H1 _ (unhide HB1)).mono ?_
  rintro e w2 ⟨rfl, hb2⟩
  have HB2 := hide (bnext (unhide HB1) hb2)
  clear hb2 y0 y1 y2 y3 y4 H1
  unfold zeroP leafO
  have HA2 := hide ((Below.refl w2.heap.size w2).alloc (Nat.le_refl _) (.cells #[.int .i64 0, .string ⟨#[]⟩, .int .i64 0, .string ⟨#[]⟩, .slice none 0 0] 24))
  go_wp2_with fail
  go_ret
  exact ⟨rfl, bnext2 (unhide HB2) (unhide HA2)⟩
theorem tuneSame_walk {RL : List (ByteArray × PT)} {rv : Value} {dg : Nat → ByteArray} (T : PT) (s : ByteArray) (i : Int) (w : World) (hV : RVal w RL rv) (hT : T.In w) (hs : s.size ≤ maxLen) (hS : Shapes w) (hIt : ItoaSays dg w) :
    Calls Tryd.prog 4 #[rv, pv T, .string s, .int .i64 i] w fun e w' => e = .returned (.bool true) ∧ Below w.heap.size w w' := by
  by_cases h : T.wrong = 0
  · exact same_right T s i w hV hT hs hS hIt h
  · exact same_wrong T s i w hT hS h
end Go.Proofs.YtbmngbpillihaaaDoor
