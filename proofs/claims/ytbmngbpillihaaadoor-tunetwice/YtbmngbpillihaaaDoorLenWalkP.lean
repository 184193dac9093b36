/- tune.Length of any pattern. -/
import Derived.Test.YtbmngbpillihaaaDoorExtWalkP
import Derived.Test.YtbmngbpillihaaaDoorPatBelowP
import Derived.Test.YtbmngbpillihaaaDoorScanRulesGP
namespace Go.Proofs.YtbmngbpillihaaaDoor
open Go.RowKit

/-- What Length tells: how few, how many, what is wrong. -/
def lenOf (T : PT) : Int × Int × Int := if T.wrong = 0 then (if T.ext.1 = false then (0, 0, 6) else (T.ext.2.1, T.ext.2.2, 0)) else (0, 0, T.wrong)
theorem box5 {w : World} {z : Nat} {v0 v1 v2 v3 v4 : Value} (h : w.heap[z]? = some (.cells #[v0, v1, v2, v3, v4] 24 (0, 0))) :
    w.cell? ⟨z, 0, none⟩ = some v0 ∧ w.cell? ⟨z, 1, none⟩ = some v1 ∧ w.cell? ⟨z, 2, none⟩ = some v2 ∧ w.cell? ⟨z, 3, none⟩ = some v3 ∧ w.cell? ⟨z, 4, none⟩ = some v4 :=
  ⟨(cell_of_row w _ _ _ _ _ h).trans rfl, (cell_of_row w _ _ _ _ _ h).trans rfl, (cell_of_row w _ _ _ _ _ h).trans rfl, (cell_of_row w _ _ _ _ _ h).trans rfl, (cell_of_row w _ _ _ _ _ h).trans rfl⟩
set_option maxRecDepth 100000 in
set_option maxHeartbeats 1000000 in
theorem length_of (T : PT) (hE : ExtSays T) (w : World) (hT : T.In w) (hS : Shapes w) :
    Calls Tryd.prog 10 #[pv T] w fun e w' => e = .returned (.tuple #[.int .i64 (lenOf T).1, .int .i64 (lenOf T).2.1, .int .i64 (lenOf T).2.2]) ∧ Below w.heap.size w w' := by
  have HW := hide (fun W (h : Below w.heap.size w W) => wrong_any T W (PT.In.later h hT) (hS.later h))
  by_cases hq : T.wrong = 0
  · have HF := hide (fun W (h : Below w.heap.size w W) => hE W (PT.In.later h hT) (right_of hq).1)
    have he : lenOf T = if T.ext.1 = false then (0, 0, 6) else (T.ext.2.1, T.ext.2.2, 0) := by unfold lenOf; rw [if_pos hq]
    rw [he]
    rw [hq] at HW
    obtain ⟨x, hx⟩ : ∃ x, x = T.ext := ⟨_, rfl⟩
    rw [← hx] at HF ⊢
    obtain ⟨x0, x1, x2⟩ := x
    unfold pv at HW HF ⊢
    clear hT hS hq he hx hE
    cases x0 with
    | false =>
      rw [if_pos rfl]
      dsimp only
      go_enter Tryd.func10, Tryd.ntmps10
      go_wp2_with fail
      refine (unhide HW _ ((Below.refl _ _).alloc (Nat.le_refl _) _)).mono ?_
      rintro e w1 ⟨rfl, hb1⟩
      have g1 := row_below (at_new (w := w) (o := .cells #[.int .i64 T.k, .string T.t, .int .i64 T.n, .string T.nm, .slice T.xa T.len T.cap] 24) rfl) hb1
      have HB := hide (bnext ((Below.refl w.heap.size w).alloc (Nat.le_refl _) _) hb1)
      obtain ⟨y0, y1, y2, y3, y4⟩ := box5 g1
      clear hb1 g1
      go_wp2_with fail
      refine (unhide HF _ (unhide HB)).mono ?_
      rintro e w2 ⟨rfl, hb2⟩
      unfold exV
      have HB2 := hide (bnext (unhide HB) hb2)
      clear hb2 y0 y1 y2 y3 y4
      go_wp2_with fail
      go_ret3
      exact ⟨rfl, (unhide HB2).alloc (unhide HB2).size _⟩
    | true =>
      rw [if_neg (by simp)]
      dsimp only
      go_enter Tryd.func10, Tryd.ntmps10
      go_wp2_with fail
      refine (unhide HW _ ((Below.refl _ _).alloc (Nat.le_refl _) _)).mono ?_
      rintro e w1 ⟨rfl, hb1⟩
      have g1 := row_below (at_new (w := w) (o := .cells #[.int .i64 T.k, .string T.t, .int .i64 T.n, .string T.nm, .slice T.xa T.len T.cap] 24) rfl) hb1
      have HB := hide (bnext ((Below.refl w.heap.size w).alloc (Nat.le_refl _) _) hb1)
      obtain ⟨y0, y1, y2, y3, y4⟩ := box5 g1
      clear hb1 g1
      go_wp2_with fail
      refine (unhide HF _ (unhide HB)).mono ?_
      rintro e w2 ⟨rfl, hb2⟩
      unfold exV
      have HB2 := hide (bnext (unhide HB) hb2)
      clear hb2 y0 y1 y2 y3 y4
      go_wp2_with fail
      go_quiet (fail)
      go_wp2_with fail
      go_ret3
      exact ⟨rfl, below_drewN ((unhide HB2).alloc (unhide HB2).size _) _⟩
  · have he : lenOf T = (0, 0, T.wrong) := by unfold lenOf; rw [if_neg hq]
    rw [he]
    unfold pv at HW ⊢
    obtain ⟨e0, h0⟩ : ∃ e0, e0 = T.wrong := ⟨_, rfl⟩
    rw [← h0] at HW hq ⊢
    have hne : (e0 == 0) = false := by rw [beq_eq_false_iff_ne]; exact hq
    have hne' : (e0 != 0) = true := by rw [bne_iff_ne]; exact hq
    clear hT hS he h0
    dsimp only
    go_enter Tryd.func10, Tryd.ntmps10
    go_wp2_with fail
    refine (unhide HW _ ((Below.refl _ _).alloc (Nat.le_refl _) _)).mono ?_
    rintro e w1 ⟨rfl, hb1⟩
    have HB := hide (bnext ((Below.refl w.heap.size w).alloc (Nat.le_refl _) _) hb1)
    clear hb1
    go_wp2_with fail
    go_ret3
    exact ⟨rfl, unhide HB⟩
end Go.Proofs.YtbmngbpillihaaaDoor
