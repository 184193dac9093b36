/- A pattern without kids. What the ways of patterns without kids are. What is asked first of scan is true. -/
import Derived.Test.YtkphpcgmfkhpnaaDoorPatSize
import Derived.Deep.OwnRows
import Derived.Test.YtkphpcgmfkhpnaaDoorScanAll2
import Derived.Test.YtkphpcgmfkhpnaaDoorScanMatch2
namespace Go.Proofs.YtkphpcgmfkhpnaaDoor
open Go.RowKit

/-- A pattern without kids. -/
def leaf (k n : Int) (t : ByteArray) : PT := ⟨k, t, n, ⟨#[]⟩, none, 0, 0, 0, 0, fun i => i.elim0⟩


set_option maxRecDepth 100000 in
set_option maxHeartbeats 1000000 in
theorem some_any (k n : Int) (t : ByteArray) (w : World) :
    Calls Tryd.prog 8 #[.int .i64 k, .int .i64 n, .string t] w fun e w' => e = .returned (pv (leaf k n t)) ∧ Below w.heap.size w w' := by
  have hi : (Tryd.prog.info? 26).map (·.size) = some (#[Value.int .i64 k, .string t, .int .i64 n, .string ⟨#[]⟩, .slice none 0 0] : Array Value).size := size_pat
  have HI := hide hi
  clear hi
  go_enter Tryd.func8, Tryd.ntmps8
  go_wp2_with (refine wpList_store_row rfl 26 _ _ rfl w.heap.size #[.int .i64 k, .string t, .int .i64 n, .string ⟨#[]⟩, .slice none 0 0] rfl rfl 26 #[.int .i64 0, .string ⟨#[]⟩, .int .i64 0, .string ⟨#[]⟩, .slice none 0 0] (at_new rfl) (unhide HI) rfl (by simp [Value.oneCell']) ?_)
  (try simp only [Exit.inBlock, Exit.then])
  exact bodyPost_ret (results_cell_row rfl _ _ w.heap.size 26 #[.int .i64 k, .string t, .int .i64 n, .string ⟨#[]⟩, .slice none 0 0] (0, 0) _ rfl (setRow_heap _ _ _ _ _ _ (at_new rfl)) Tryd.underlying26 rfl (unhide HI)) rfl ⟨rfl, below_setRow ((Below.refl _ _).alloc (Nat.le_refl _) _) _ (Nat.le_refl _) _⟩
end Go.Proofs.YtkphpcgmfkhpnaaDoor

namespace Go.Proofs.YtkphpcgmfkhpnaaDoor
open Go.RowKit

theorem leaf_in {w : World} {k n : Int} {t : ByteArray} (hk : -9223372036854775808 ≤ k ∧ k ≤ 9223372036854775807) (hn : -9223372036854775808 ≤ n ∧ n ≤ 9223372036854775807) (ht : t.size ≤ maxLen) : (leaf k n t).In w :=
  ⟨hk, ht, hn, (by unfold maxLen; decide), Nat.zero_le _, Nat.le_refl _, (fun h => absurd h (by decide)), fun i => i.elim0⟩
theorem leaf_bare {k n : Int} {t : ByteArray} (h : k ≠ 21 ∧ k ≠ 22 ∧ k ≠ 23 ∧ k ≠ 24 ∧ k ≠ 0) : Bare (leaf k n t) := ⟨h, fun i => i.elim0⟩
theorem leaf_fine {k n : Int} {t : ByteArray} (h : okS k t n 0) : FineS (leaf k n t) := ⟨h, fun i => i.elim0⟩
theorem leaf_wrong (k n : Int) (t : ByteArray) : (leaf k n t).wrong = errN (leaf k n t) := by
  unfold PT.wrong
  rw [show (leaf k n t).fits = true from rfl, if_pos rfl, PT.bad_eq]
  show (if errN (leaf k n t) = 0 then 0 else errN (leaf k n t)) = _
  split
  · rename_i h; exact h.symm
  · rfl
section
variable (dg : Nat → ByteArray)
theorem told_leaf {T : PT} (s : ByteArray) (i : Nat) (h : leafK T.k) : told dg T s i 4096 20000 = ((match onl s T i with | some e => [(e, [])] | none => []), 0) := by
  unfold told
  rw [D_leaf h]
  cases onl s T i with
  | none => exact tld_all _ _ _ _ (by decide) (by decide)
  | some e => exact tld_all _ _ _ _ (by rw [show ((put tk (match some e with | some e => one (wy e []) | none => nil)).1) = [tk, wy e []] from rfl, tks_cons, tks_cons]; simp [tk, wy, tks]) (by rw [show ((put tk (match some e with | some e => one (wy e []) | none => nil)).1) = [tk, wy e []] from rfl]; simp [prsW, wys, tk, wy])
theorem wrongNone_zero {T : PT} {s : ByteArray} (hw : T.wrong = 0) (hs : s.size ≤ 65536) : wrongNone T s 20000 = 0 := by
  unfold wrongNone
  rw [if_neg (by rw [hw]; simp), if_neg (by omega), if_neg (by omega)]
theorem waysOf_out {T : PT} {s : ByteArray} {i : Int} (hw : T.wrong = 0) (hs : s.size ≤ 65536) (hi : i < 0 ∨ (s.size : Int) < i) : waysOf dg T s i 4096 20000 = ([], false, 3) := by
  unfold waysOf
  rw [if_neg (by rw [wrongNone_zero hw hs]; simp), if_pos (by omega)]
theorem waysOf_told {T : PT} {s : ByteArray} {i : Nat} {l : List (Nat × List Gft)} {en : Nat} (hw : T.wrong = 0) (hs : s.size ≤ 65536) (hi : i ≤ s.size) (ht : told dg T s i 4096 20000 = (l, en)) (he : en ≠ 10) : waysOf dg T s (i : Int) 4096 20000 = (l, decide (en = 1), 0) := by
  unfold waysOf
  rw [if_neg (by rw [wrongNone_zero hw hs]; simp), if_neg (by omega), Int.toNat_natCast, show ((4096 : Int).toNat) = 4096 from rfl, show ((20000 : Int).toNat) = 20000 from rfl, ht, if_neg he]
theorem waysOf_leaf {T U : PT} {s : ByteArray} (i : Int) (hw : T.wrong = 0) (hw' : U.wrong = 0) (hT : leafK T.k) (hU : leafK U.k) (hs : s.size ≤ 65536) (ho : ∀ j, j ≤ s.size → onl s T j = onl s U j) : waysOf dg T s i 4096 20000 = waysOf dg U s i 4096 20000 := by
  by_cases hi : i < 0 ∨ (s.size : Int) < i
  · rw [waysOf_out dg hw hs hi, waysOf_out dg hw' hs hi]
  · obtain ⟨j, rfl⟩ : ∃ j : Nat, i = j := ⟨i.toNat, by omega⟩
    rw [waysOf_told dg hw hs (by omega) (told_leaf dg s j hT) (by decide), waysOf_told dg hw' hs (by omega) (told_leaf dg s j hU) (by decide), ho j (by omega)]
theorem waysOf_none {T : PT} {s : ByteArray} (i : Int) (hw : T.wrong = 0) (hT : leafK T.k) (hs : s.size ≤ 65536) : ∀ x ∈ (waysOf dg T s i 4096 20000).1, x.2 = [] := by
  by_cases hi : i < 0 ∨ (s.size : Int) < i
  · rw [waysOf_out dg hw hs hi]; intro x hx; cases hx
  · obtain ⟨j, rfl⟩ : ∃ j : Nat, i = j := ⟨i.toNat, by omega⟩
    rw [waysOf_told dg hw hs (by omega) (told_leaf dg s j hT) (by decide)]
    intro x hx
    revert hx
    cases onl s T j with
    | none => intro hx; cases hx
    | some e => intro hx; rw [List.mem_singleton.1 hx]
end
theorem D_arb {s : ByteArray} {R : ByteArray → Option PT} {dg : Nat → ByteArray} {n : Nat} {T : PT} {i : Nat} {g : List Gft} (h : T.k = 13) : D s R dg (n + 1) T i g = put tk (arbs g (s.size + 1 - i) i) := by
  rw [D, if_neg (by omega), if_neg (by omega), if_neg (by omega), if_neg (by omega), if_pos h]

/-- What is asked first. -/
theorem alive_match (dg : Nat → ByteArray) : matchOf dg (leaf 1 0 ⟨#[98]⟩) ⟨#[97, 98, 99]⟩ 3 10 = ⟨true, 1, 2, [], 2, 0, 0⟩ := by
  have hl : leafK (leaf 1 0 ⟨#[98]⟩).k := by unfold leafK; decide
  have q0 : onl ⟨#[97, 98, 99]⟩ (leaf 1 0 ⟨#[98]⟩) 0 = none := by decide
  have q1 : onl ⟨#[97, 98, 99]⟩ (leaf 1 0 ⟨#[98]⟩) 1 = some 2 := by decide
  unfold matchOf
  rw [lk_none (t' := 1) (d' := 0) (by rw [D_leaf hl, q0]; rfl), lk_found (a := 2) (G := []) (t' := 2) (d' := 0) (by rw [D_leaf hl, q1]; rfl)]
theorem alive_ways (dg : Nat → ByteArray) : waysOf dg (leaf 13 0 ⟨#[]⟩) ⟨#[97, 98]⟩ 0 5 10 = ([(0, []), (1, []), (2, [])], false, 0) := by
  have ht : told dg (leaf 13 0 ⟨#[]⟩) ⟨#[97, 98]⟩ 0 5 10 = ([(0, []), (1, []), (2, [])], 0) := by
    unfold told
    rw [D_arb (show (leaf 13 0 ⟨#[]⟩).k = 13 from rfl)]
    rfl
  have hw : wrongNone (leaf 13 0 ⟨#[]⟩) ⟨#[97, 98]⟩ 10 = 0 := by
    unfold wrongNone
    rw [leaf_wrong]
    decide
  unfold waysOf
  rw [if_neg (by rw [hw]; simp), if_neg (by decide), show ((0 : Int).toNat) = 0 from rfl, show ((5 : Int).toNat) = 5 from rfl, show ((10 : Int).toNat) = 10 from rfl, ht]
  rfl
end Go.Proofs.YtkphpcgmfkhpnaaDoor

namespace Go.Proofs.YtkphpcgmfkhpnaaDoor
open Go.RowKit

set_option maxRecDepth 100000 in
set_option maxHeartbeats 1000000 in
theorem alive5 (w : World) (hS : Shapes w) : Calls Tryd.prog 5 #[] w fun e w' => e = .returned (.bool true) ∧ Below w.heap.size w w' := by
  have dg : Nat → ByteArray := fun _ => ⟨#[]⟩
  have HM : Hid (Calls Tryd.prog 12 #[.slice none 0 0, .agg #[.int .i64 1, .string ⟨#[98]⟩, .int .i64 0, .string ⟨#[]⟩, .slice none 0 0], .string ⟨#[97, 98, 99]⟩, .bool false, .int .i64 10] w (MatchPost ⟨true, 1, 2, [], 2, 0, 0⟩ w)) :=
    hide (match_free (fun _ => 0) dg (leaf 1 0 ⟨#[98]⟩) ⟨#[97, 98, 99]⟩ 10 w (leaf_in (by decide) (by decide) (by unfold maxLen; decide)) hS (by unfold maxLen; decide) (by unfold wrongNone; rw [leaf_wrong]; decide) (by decide) (leaf_bare (by decide)) (leaf_fine (by unfold okS; decide)) _ (alive_match dg) (by decide))
  have HW : Hid (∀ W, Below w.heap.size w W → Calls Tryd.prog 13 #[.slice none 0 0, .agg #[.int .i64 13, .string ⟨#[]⟩, .int .i64 0, .string ⟨#[]⟩, .slice none 0 0], .string ⟨#[97, 98]⟩, .int .i64 0, .int .i64 5, .int .i64 10] W (WaysPost dg (leaf 13 0 ⟨#[]⟩) ⟨#[97, 98]⟩ 0 5 10 W)) :=
    hide (fun W h => ways_any (fun _ => 0) dg (leaf 13 0 ⟨#[]⟩) ⟨#[97, 98]⟩ 0 5 10 W (leaf_in (by decide) (by decide) (by unfold maxLen; decide)) (hS.later h) (by unfold maxLen; decide) (fun _ => ⟨(by decide), leaf_bare (by decide), leaf_fine (by unfold okS; decide)⟩))
  clear hS
  go_enter Tryd.func5, Tryd.ntmps5
  go_wp2_with fail
  refine (unhide HM).mono ?_
  rintro e w1 ⟨a1, c1, a2, n2, c2, rfl, hb1, -⟩
  have hd : Below w1.heap.size w1 (w1.alloc (.cells #[.bool true, .int .i64 1, .int .i64 2, .slice a1 0 c1, .slice a2 n2 c2, .int .i64 2] 40)) := (Below.refl _ _).alloc (Nat.le_refl _) _
  have HB1 := hide (bnext hb1 hd)
  clear hb1 hd HM
  go_wp2_with fail
  refine (unhide HW _ (unhide HB1)).mono ?_
  rintro e w2 ⟨v, L, cut, err, rfl, hL, hb2, hr⟩
  rw [alive_ways dg] at hr
  have hlen : L.length = 3 := by have := congrArg (fun r : List (Nat × List Gft) × Bool × Int => r.1.length) hr; simpa using this
  obtain ⟨rfl, rfl⟩ : cut = false ∧ err = 0 := ⟨congrArg (fun r : List (Nat × List Gft) × Bool × Int => r.2.1) hr, congrArg (fun r : List (Nat × List Gft) × Bool × Int => r.2.2) hr⟩
  obtain ⟨a, cap, hv, -, -⟩ := hL.row.len
  rw [hlen] at hv
  subst hv
  have hz : w2.heap[w1.heap.size]? = some (.cells #[.bool true, .int .i64 1, .int .i64 2, .slice a1 0 c1, .slice a2 n2 c2, .int .i64 2] 40 (0, 0)) := row_below (at_new (w := w1) rfl) hb2
  have y0 : w2.cell? ⟨w1.heap.size, 0, none⟩ = some (.bool true) := by rw [cell_of_row _ _ _ _ _ _ hz]; rfl
  have y1 : w2.cell? ⟨w1.heap.size, 1, none⟩ = some (.int .i64 1) := by rw [cell_of_row _ _ _ _ _ _ hz]; rfl
  have y2 : w2.cell? ⟨w1.heap.size, 2, none⟩ = some (.int .i64 2) := by rw [cell_of_row _ _ _ _ _ _ hz]; rfl
  have y5 : w2.cell? ⟨w1.heap.size, 5, none⟩ = some (.int .i64 2) := by rw [cell_of_row _ _ _ _ _ _ hz]; rfl
  have HB2 := hide (bnext (unhide HB1) hb2)
  clear hz hb2 hr hlen hL HW HB1
  go_wp2_with fail
  go_ret
  exact ⟨rfl, unhide HB2⟩
end Go.Proofs.YtkphpcgmfkhpnaaDoor
