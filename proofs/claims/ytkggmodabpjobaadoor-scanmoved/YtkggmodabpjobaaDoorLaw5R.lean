/- What the law of scan is made of. -/
import Derived.Test.YtkggmodabpjobaaDoorLaw5M
namespace Go.Proofs.YtkggmodabpjobaaDoor
open Go.RowKit

/-- A pattern without kids. -/
def leaf (k n : Int) (t : ByteArray) : PT := ⟨k, t, n, ⟨#[]⟩, none, 0, 0, 0, 0, fun i => i.elim0⟩

theorem leaf_in {w : World} {k n : Int} {t : ByteArray} (hk : -9223372036854775808 ≤ k ∧ k ≤ 9223372036854775807) (hn : -9223372036854775808 ≤ n ∧ n ≤ 9223372036854775807) (ht : t.size ≤ maxLen) : (leaf k n t).In w :=
  ⟨hk, ht, hn, (by unfold maxLen; decide), Nat.zero_le _, Nat.le_refl _, (fun h => absurd h (by decide)), fun i => i.elim0⟩
theorem leaf_wrong (k n : Int) (t : ByteArray) : (leaf k n t).wrong = errN (leaf k n t) := by
  unfold PT.wrong
  rw [show (leaf k n t).fits = true from rfl, if_pos rfl, PT.bad_eq]
  show (if errN (leaf k n t) = 0 then 0 else errN (leaf k n t)) = _
  split
  · rename_i h; exact h.symm
  · rfl
theorem D_arb {s : ByteArray} {R : ByteArray → Option PT} {dg : Nat → ByteArray} {n : Nat} {T : PT} {i : Nat} {g : List Gft} (h : T.k = 13) : D s R dg (n + 1) T i g = put tk (arbs g (s.size + 1 - i) i) := by
  rw [D, if_neg (by omega), if_neg (by omega), if_neg (by omega), if_neg (by omega), if_pos h]

/-- What is asked first. -/
theorem alive_match (dg : Nat → ByteArray) : matchOf [] dg (leaf 1 0 ⟨#[98]⟩) ⟨#[97, 98, 99]⟩ 3 10 = ⟨true, 1, 2, [], 2, [], 0⟩ := by
  have hl : leafK (leaf 1 0 ⟨#[98]⟩).k := by unfold leafK; decide
  have q0 : onl ⟨#[97, 98, 99]⟩ (leaf 1 0 ⟨#[98]⟩) 0 = none := by decide
  have q1 : onl ⟨#[97, 98, 99]⟩ (leaf 1 0 ⟨#[98]⟩) 1 = some 2 := by decide
  unfold matchOf
  rw [lk_none (t' := 1) (d' := []) (by rw [D_leaf hl, q0]; rfl), lk_found (a := 2) (G := []) (t' := 2) (d' := []) (by rw [D_leaf hl, q1]; rfl)]
theorem alive_ways (dg : Nat → ByteArray) : waysOf [] dg (leaf 13 0 ⟨#[]⟩) ⟨#[97, 98]⟩ 0 5 10 = ([(0, []), (1, []), (2, [])], false, 0) := by
  have ht : told [] dg (leaf 13 0 ⟨#[]⟩) ⟨#[97, 98]⟩ 0 5 10 = ([(0, []), (1, []), (2, [])], 0) := by
    unfold told
    rw [D_arb (show (leaf 13 0 ⟨#[]⟩).k = 13 from rfl)]
    rfl
  have hw : wrongR [] (leaf 13 0 ⟨#[]⟩) ⟨#[97, 98]⟩ 10 = 0 := by
    unfold wrongR
    rw [leaf_wrong]
    decide
  unfold waysOf
  rw [if_neg (by rw [hw]; simp), if_neg (by decide), show ((0 : Int).toNat) = 0 from rfl, show ((5 : Int).toNat) = 5 from rfl, show ((10 : Int).toNat) = 10 from rfl, ht]
  rfl
theorem rval_none (w : World) : RVal w [] (.slice none 0 0) := ⟨fun i r h => by simp at h, .inl ⟨rfl, none, 0, rfl⟩⟩
end Go.Proofs.YtkggmodabpjobaaDoor

namespace Go.Proofs.YtkggmodabpjobaaDoor
open Go.RowKit

theorem kidsP_in {w : World} {k : Int} {b : Nat} {l : List PT} (hk : 1 ≤ k ∧ k ≤ 24) (hl : l.length ≤ 3) (h : w.heap[b]? = some (.cells (flat fiveV l).toArray 24 (0, 0))) (hin : ∀ x ∈ l, x.In w) : (kidsP k b l).In w := by
  refine ⟨by omega, by unfold maxLen; decide, by decide, by unfold maxLen; decide, by unfold maxLen; omega, Nat.le_refl _, fun _ => rfl, fun i => ⟨?_, hin _ (List.getElem_mem _)⟩⟩
  have hc : ∀ j u, (fiveV l[i])[j]? = some u → w.cell? ⟨b, 0 + i.val * 5 + j, none⟩ = some u := fun j u hj => by
    have hj5 : j < 5 := by have := (List.getElem?_eq_some_iff.1 hj).1; rwa [fiveV_len] at this
    rw [cell_of_row _ _ _ _ _ _ h, List.getElem?_toArray, Nat.zero_add, flat_get fiveV_len l i.val j l[i] (List.getElem?_eq_getElem i.isLt) hj5, hj]
  exact ⟨hc 0 _ rfl, hc 1 _ rfl, hc 2 _ rfl, hc 3 _ rfl, hc 4 _ rfl⟩
theorem kids_call {f : Nat} {k : Int} {b : Nat} {l : List PT} {w : World} (hk : 1 ≤ k ∧ k ≤ 24) (hc : Calls Tryd.prog f #[.slice (some ⟨b, 0, none⟩) l.length l.length] w fun e w' => e = .returned (.agg #[.int .i64 k, .string ⟨#[]⟩, .int .i64 0, .string ⟨#[]⟩, .slice (some ⟨b, 0, none⟩) l.length l.length]) ∧ Below w.heap.size w w') (hl : l.length ≤ 3) (h : w.heap[b]? = some (.cells (flat fiveV l).toArray 24 (0, 0))) (hin : ∀ x ∈ l, x.In w) :
    Calls Tryd.prog f #[.slice (some ⟨b, 0, none⟩) l.length l.length] w fun e w' => e = .returned (pv (kidsP k b l)) ∧ Below w.heap.size w w' ∧ (kidsP k b l).In w' :=
  hc.mono fun _ _ ⟨h1, h2⟩ => ⟨h1, h2, PT.In.later h2 (kidsP_in hk hl h hin)⟩

end Go.Proofs.YtkggmodabpjobaaDoor

namespace Go.Proofs.YtkggmodabpjobaaDoor
open Go.RowKit
set_option maxRecDepth 100000 in
set_option maxHeartbeats 1000000 in
theorem alive5 {dg : Nat → ByteArray} (w : World) (hIt : ItoaSays dg w) (hS : Shapes w) : Calls Tryd.prog 4 #[] w fun e w' => e = .returned (.bool true) ∧ Below w.heap.size w w' := by
  have HM : Hid (Calls Tryd.prog 8 #[.slice none 0 0, .agg #[.int .i64 1, .string ⟨#[98]⟩, .int .i64 0, .string ⟨#[]⟩, .slice none 0 0], .string ⟨#[97, 98, 99]⟩, .bool false, .int .i64 10] w (MatchPost ⟨true, 1, 2, [], 2, [], 0⟩ w)) :=
    hide (match_free dg (leaf 1 0 ⟨#[98]⟩) ⟨#[97, 98, 99]⟩ 10 w (rval_none w) hIt (leaf_in (by decide) (by decide) (by unfold maxLen; decide)) hS (by unfold maxLen; decide) (by unfold wrongR; rw [leaf_wrong]; decide) _ (alive_match dg) (by decide))
  have HW : Hid (∀ W, Below w.heap.size w W → Calls Tryd.prog 9 #[.slice none 0 0, .agg #[.int .i64 13, .string ⟨#[]⟩, .int .i64 0, .string ⟨#[]⟩, .slice none 0 0], .string ⟨#[97, 98]⟩, .int .i64 0, .int .i64 5, .int .i64 10] W (WaysPost [] dg (leaf 13 0 ⟨#[]⟩) ⟨#[97, 98]⟩ 0 5 10 W)) :=
    hide (fun W h => ways_any dg (leaf 13 0 ⟨#[]⟩) ⟨#[97, 98]⟩ 0 5 10 W (rval_none W) (hIt.later h) (leaf_in (by decide) (by decide) (by unfold maxLen; decide)) (hS.later h) (by unfold maxLen; decide))
  clear hS hIt
  go_enter Tryd.func4, Tryd.ntmps4
  go_wp2_with fail
  refine (unhide HM).mono ?_
  rintro e w1 ⟨a1, c1, a2, n2, c2, rfl, hb1, -⟩
  have hd : Below w1.heap.size w1 (w1.alloc (.cells #[.bool true, .int .i64 1, .int .i64 2, .slice a1 0 c1, .slice a2 n2 c2, .int .i64 2] 36)) := (Below.refl _ _).alloc (Nat.le_refl _) _
  have HB1 := hide (bnext hb1 hd)
  clear hb1 hd HM
  go_wp2_with fail
  refine (unhide HW _ (unhide HB1)).mono ?_
  rintro e w2 ⟨v, L, cut, err, rfl, hL, hb2, hr⟩
  rw [alive_ways dg] at hr
  have hlen : L.length = 3 := by have := congrArg (fun r : List (Nat × List Gft) × Bool × Int => r.1.length) hr; simpa using this
  obtain ⟨rfl, rfl⟩ : cut = false ∧ err = 0 := ⟨congrArg (fun r : List (Nat × List Gft) × Bool × Int => r.2.1) hr, congrArg (fun r : List (Nat × List Gft) × Bool × Int => r.2.2) hr⟩
  obtain ⟨a, cap, hv, -, -⟩ := hL.row.len
  rw [hlen] at hv
  subst hv
  have hz : w2.heap[w1.heap.size]? = some (.cells #[.bool true, .int .i64 1, .int .i64 2, .slice a1 0 c1, .slice a2 n2 c2, .int .i64 2] 36 (0, 0)) := row_below (at_new (w := w1) rfl) hb2
  have y0 : w2.cell? ⟨w1.heap.size, 0, none⟩ = some (.bool true) := by rw [cell_of_row _ _ _ _ _ _ hz]; rfl
  have y1 : w2.cell? ⟨w1.heap.size, 1, none⟩ = some (.int .i64 1) := by rw [cell_of_row _ _ _ _ _ _ hz]; rfl
  have y2 : w2.cell? ⟨w1.heap.size, 2, none⟩ = some (.int .i64 2) := by rw [cell_of_row _ _ _ _ _ _ hz]; rfl
  have y5 : w2.cell? ⟨w1.heap.size, 5, none⟩ = some (.int .i64 2) := by rw [cell_of_row _ _ _ _ _ _ hz]; rfl
  have HB2 := hide (bnext (unhide HB1) hb2)
  clear hz hb2 hr hlen hL HW HB1
  go_wp2_with fail
  go_ret
  exact ⟨rfl, unhide HB2⟩
end Go.Proofs.YtkggmodabpjobaaDoor
