/- What the document's In, texts and numbers do, for every kind. What Print of a pattern says. -/
import Derived.Test.YtpphjddljngkmaaGreatDoorPatSizeP
import Derived.Test.YtpphjddljngkmaaGreatDoorPatRightM
import Derived.Test.YtpphjddljngkmaaGreatDoorPrintRows4M
namespace Go.Proofs.YtpphjddljngkmaaGreatDoor
open Go.RowKit

set_option maxRecDepth 100000 in
set_option maxHeartbeats 400000 in
theorem in_any (k : Int) (l : List Int) (g : Nat) (w : World) (hl : l.length ≤ 24) (hc : ∀ i, i < l.length → w.cell? ⟨g, i, none⟩ = some (.int .i64 (l.getD i 0))) :
    Calls Tryz.prog 54 #[.int .i64 k, .slice (some ⟨g, 0, none⟩) l.length l.length] w fun e w' => e = .returned (.bool (decide (k ∈ l))) ∧ w' = w := by
  have HC := hide hc
  clear hc
  generalize hn : l.length = n at *
  have HN := hide hn
  clear hn
  go_enter Tryz.func54, Tryz.ntmps54
  go_wp2
  go_loop [9] (fun i => ∃ j : Nat, j ≤ n ∧ i = .int .i64 (j : Int) ∧ ∀ q, q < j → l.getD q 0 ≠ k) (fun i => n - (intOf i).toNat)
  case atStart => exact ⟨0, by omega, rfl, fun q hq => by omega⟩
  case round =>
    obtain ⟨j, hj, rfl, hq⟩ := hrel
    have HQ := hide hq
    clear hq
    rcases Nat.lt_or_ge j n with hjt | hjt
    · have c := unhide HC j hjt
      by_cases he : l.getD j 0 = k
      · have HM : Hid (decide (k ∈ l) = true) := hide (by
          rw [decide_eq_true_eq, ← he]
          have : j < l.length := by rw [unhide HN]; exact hjt
          rw [List.getD, List.getElem?_eq_getElem this]
          exact List.getElem_mem this)
        have hb : (l.getD j 0 == k) = true := bt he
        clear he
        generalize l.getD j 0 = x at *
        go_wp2
        go_ret
        exact ⟨by rw [unhide HM]; rfl, rfl⟩
      · have HW : Hid (∀ q, q < j + 1 → l.getD q 0 ≠ k) := hide (fun q hq => by
          rcases Nat.lt_or_ge q j with h | h
          · exact unhide HQ q h
          · rw [show q = j by omega]; exact he)
        have hb : (l.getD j 0 == k) = false := bn he
        clear he
        generalize l.getD j 0 = x at *
        go_wp2
        exact ⟨⟨j + 1, by omega, by go_num, unhide HW⟩, by simp [intOf]; omega⟩
    · have HM : Hid (decide (k ∈ l) = false) := hide (by
        rw [decide_eq_false_iff_not]
        intro hm
        obtain ⟨q, hq, he⟩ := List.getElem_of_mem hm
        refine unhide HQ q (by have := unhide HN; omega) ?_
        rw [List.getD, List.getElem?_eq_getElem hq]
        exact he)
      go_wp2
      go_ret
      exact ⟨by rw [unhide HM]; rfl, rfl⟩
theorem cells_of {w : World} {g : Nat} {l : List Int} {t : TypeId} (h : w.heap[g]? = some (.cells (l.map fun n => Value.int .i64 n).toArray t (0, 0))) : ∀ i, i < l.length → w.cell? ⟨g, i, none⟩ = some (.int .i64 (l.getD i 0)) := fun i hi => by
  rw [cell_of_row _ _ _ _ _ _ h]
  simp [List.getD, hi]
def isText (k : Int) : Bool := decide (k ∈ [3, 4, 5, 6, 7])
theorem in_isText (k : Int) (g : Nat) (w : World) (h : w.heap[g]? = some (.cells #[.int .i64 3, .int .i64 4, .int .i64 5, .int .i64 6, .int .i64 7] 3 (0, 0))) :
    Calls Tryz.prog 54 #[.int .i64 k, .slice (some ⟨g, 0, none⟩) 5 5] w fun e w' => e = .returned (.bool (isText k)) ∧ w' = w := in_any k [3, 4, 5, 6, 7] g w (by decide) (cells_of h)
def isNum (k : Int) : Bool := decide (k ∈ [2, 8, 9, 10, 11])
theorem in_isNum (k : Int) (g : Nat) (w : World) (h : w.heap[g]? = some (.cells #[.int .i64 2, .int .i64 8, .int .i64 9, .int .i64 10, .int .i64 11] 3 (0, 0))) :
    Calls Tryz.prog 54 #[.int .i64 k, .slice (some ⟨g, 0, none⟩) 5 5] w fun e w' => e = .returned (.bool (isNum k)) ∧ w' = w := in_any k [2, 8, 9, 10, 11] g w (by decide) (cells_of h)
def isName (k : Int) : Bool := decide (k ∈ [21, 22, 23, 24])
theorem in_isName (k : Int) (g : Nat) (w : World) (h : w.heap[g]? = some (.cells #[.int .i64 21, .int .i64 22, .int .i64 23, .int .i64 24] 3 (0, 0))) :
    Calls Tryz.prog 54 #[.int .i64 k, .slice (some ⟨g, 0, none⟩) 4 4] w fun e w' => e = .returned (.bool (isName k)) ∧ w' = w := in_any k [21, 22, 23, 24] g w (by decide) (cells_of h)
def isMany (k : Int) : Bool := decide (k ∈ [18, 19])
theorem in_isMany (k : Int) (g : Nat) (w : World) (h : w.heap[g]? = some (.cells #[.int .i64 18, .int .i64 19] 3 (0, 0))) :
    Calls Tryz.prog 54 #[.int .i64 k, .slice (some ⟨g, 0, none⟩) 2 2] w fun e w' => e = .returned (.bool (isMany k)) ∧ w' = w := in_any k [18, 19] g w (by decide) (cells_of h)
def isOne (k : Int) : Bool := decide (k ∈ [20, 21, 22])
theorem in_isOne (k : Int) (g : Nat) (w : World) (h : w.heap[g]? = some (.cells #[.int .i64 20, .int .i64 21, .int .i64 22] 3 (0, 0))) :
    Calls Tryz.prog 54 #[.int .i64 k, .slice (some ⟨g, 0, none⟩) 3 3] w fun e w' => e = .returned (.bool (isOne k)) ∧ w' = w := in_any k [20, 21, 22] g w (by decide) (cells_of h)
def isKids (k : Int) : Bool := decide (k ∈ [18, 19, 20, 21, 22])
theorem in_isKids (k : Int) (g : Nat) (w : World) (h : w.heap[g]? = some (.cells #[.int .i64 18, .int .i64 19, .int .i64 20, .int .i64 21, .int .i64 22] 3 (0, 0))) :
    Calls Tryz.prog 54 #[.int .i64 k, .slice (some ⟨g, 0, none⟩) 5 5] w fun e w' => e = .returned (.bool (isKids k)) ∧ w' = w := in_any k [18, 19, 20, 21, 22] g w (by decide) (cells_of h)
set_option maxRecDepth 100000 in
set_option maxHeartbeats 400000 in
theorem texts_any (k : Int) (w : World) :
    Calls Tryz.prog 52 #[.int .i64 k] w fun e w' => e = .returned (.bool (isText k)) ∧ Below w.heap.size w w' := by
  go_enter Tryz.func52, Tryz.ntmps52
  go_wp2_with (go_at_call 54; refine (in_isText k _ _ (at_new rfl)).mono ?_; rintro e w1 ⟨rfl, rfl⟩)
  go_ret
  exact ⟨rfl, ba _⟩
set_option maxRecDepth 100000 in
set_option maxHeartbeats 400000 in
theorem numbers_any (k : Int) (w : World) :
    Calls Tryz.prog 53 #[.int .i64 k] w fun e w' => e = .returned (.bool (isNum k)) ∧ Below w.heap.size w w' := by
  go_enter Tryz.func53, Tryz.ntmps53
  go_wp2_with (go_at_call 54; refine (in_isNum k _ _ (at_new rfl)).mono ?_; rintro e w1 ⟨rfl, rfl⟩)
  go_ret
  exact ⟨rfl, ba _⟩
end Go.Proofs.YtpphjddljngkmaaGreatDoor

namespace Go.Proofs.YtpphjddljngkmaaGreatDoor
open Go.RowKit

theorem wordK_size (K : Nat) : (wordK K).size ≤ 6 := by
  unfold wordK
  rcases Nat.lt_or_ge K 25 with h | h
  · have h : K = 0 ∨ K = 1 ∨ K = 2 ∨ K = 3 ∨ K = 4 ∨ K = 5 ∨ K = 6 ∨ K = 7 ∨ K = 8 ∨ K = 9 ∨ K = 10 ∨ K = 11 ∨ K = 12 ∨ K = 13 ∨ K = 14 ∨ K = 15 ∨ K = 16 ∨ K = 17 ∨ K = 18 ∨ K = 19 ∨ K = 20 ∨ K = 21 ∨ K = 22 ∨ K = 23 ∨ K = 24 := by omega
    rcases h with rfl | rfl | rfl | rfl | rfl | rfl | rfl | rfl | rfl | rfl | rfl | rfl | rfl | rfl | rfl | rfl | rfl | rfl | rfl | rfl | rfl | rfl | rfl | rfl | rfl <;> decide
  · have : shapeWords.getD K ByteArray.empty = ByteArray.empty := by
      rw [List.getD, List.getElem?_eq_none (by show 25 ≤ K; exact h)]; rfl
    rw [this]; decide
theorem cells5s {W : World} {g : Nat} {a b c d e : Value} {t : TypeId} (h : W.heap[g]? = some (.cells #[a, b, c, d, e] t (0, 0))) :
    W.cell? ⟨g, 0, none⟩ = some a ∧ W.cell? ⟨g, 1, none⟩ = some b ∧ W.cell? ⟨g, 2, none⟩ = some c ∧ W.cell? ⟨g, 3, none⟩ = some d ∧ W.cell? ⟨g, 4, none⟩ = some e := by
  refine ⟨?_, ?_, ?_, ?_, ?_⟩ <;> rw [cell_of_row _ _ _ _ _ _ h] <;> rfl
/-- What Print answers. -/
def printSaid (T : PT) : Value := if T.wrong = 0 then (if 65536 < T.txt.length then .tuple #[.string ⟨#[]⟩, .int .i64 4] else .tuple #[.string ⟨T.txt.toArray⟩, .int .i64 0]) else .tuple #[.string ⟨#[]⟩, .int .i64 T.wrong]
theorem wrong_nought {T : PT} (h : T.wrong = 0) : T.bad = 0 ∧ T.cnt ≤ 4096 := by
  unfold PT.wrong at h
  cases hf : T.fits with
  | false => rw [hf] at h; simp at h
  | true =>
    rw [hf] at h
    refine ⟨by simpa using h, ?_⟩
    unfold PT.fits at hf
    simp at hf
    exact hf.1
end Go.Proofs.YtpphjddljngkmaaGreatDoor
