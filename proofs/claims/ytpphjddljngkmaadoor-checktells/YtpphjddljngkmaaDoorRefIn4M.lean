/- The document's Expr: what is wrong with an expression; and its target. What the document's In, texts and numbers do, for every kind. -/
import Derived.Test.YtpphjddljngkmaaDoorRefExNP
import Derived.Test.YtpphjddljngkmaaDoorStBM
import Derived.Test.YtpphjddljngkmaaDoorPatSizeP
namespace Go.Proofs.YtpphjddljngkmaaDoor
open Go.RowKit

set_option maxRecDepth 100000 in
set_option maxHeartbeats 1000000 in
theorem refTarget_any (T : PT) (w : World) : Calls Tryd.prog 27 #[pv T] w fun e w' => e = .returned (.bool (isPl T.k)) ∧ Below w.heap.size w w' := by
  unfold pv
  obtain ⟨c0, -, -, -, -⟩ := cells5x (W := w.alloc (.cells #[.int .i64 T.k, .string T.t, .int .i64 T.n, .string T.nm, .slice T.xa T.len T.cap] 43)) (at_new rfl)
  by_cases h3 : T.k = 3
  · have HP : Hid (isPl T.k = true) := hide (by unfold isPl; rw [h3]; rfl)
    have q3 : (T.k == 3) = true := bt h3
    clear h3
    go_enter Tryd.func27, Tryd.ntmps27
    go_wp2_with fail
    go_ret
    exact ⟨by rw [unhide HP]; rfl, ba _⟩
  · by_cases h4 : T.k = 4
    · have HP : Hid (isPl T.k = true) := hide (by unfold isPl; rw [h4]; rfl)
      have q3 : (T.k == 3) = false := bn h3
      have q4 : (T.k == 4) = true := bt h4
      clear h3 h4
      go_enter Tryd.func27, Tryd.ntmps27
      go_wp2_with fail
      go_ret
      exact ⟨by rw [unhide HP]; rfl, ba _⟩
    · by_cases h5 : T.k = 5
      · have HP : Hid (isPl T.k = true) := hide (by unfold isPl; rw [h5]; rfl)
        have q3 : (T.k == 3) = false := bn h3
        have q4 : (T.k == 4) = false := bn h4
        have q5 : (T.k == 5) = true := bt h5
        clear h3 h4 h5
        go_enter Tryd.func27, Tryd.ntmps27
        go_wp2_with fail
        go_ret
        exact ⟨by rw [unhide HP]; rfl, ba _⟩
      · have HP : Hid (isPl T.k = false) := hide (by unfold isPl; rw [decide_eq_false h3, decide_eq_false h4, decide_eq_false h5]; rfl)
        have q3 : (T.k == 3) = false := bn h3
        have q4 : (T.k == 4) = false := bn h4
        have q5 : (T.k == 5) = false := bn h5
        clear h3 h4 h5
        go_enter Tryd.func27, Tryd.ntmps27
        go_wp2_with fail
        go_ret
        exact ⟨by rw [unhide HP]; rfl, ba _⟩
set_option maxRecDepth 100000 in
set_option maxHeartbeats 1000000 in
theorem refExpr_any (T : PT) (w : World) (hT : T.In w) :
    Calls Tryd.prog 26 #[pv T] w fun e w' => e = .returned (.int .i64 T.wrongX) ∧ Below w.heap.size w w' := by
  have HZ := hide (fun W (h : Below w.heap.size w W) => cnt_any T W 1 (PT.In.later h hT) (by omega) (by omega) 1 rfl)
  have HB := hide (fun W (h : Below w.heap.size w W) => rbad_any T W (PT.In.later h hT))
  have HCP := hide (Nat.le_refl T.cnt)
  clear hT
  unfold pv
  have hk0 := (Below.refl w.heap.size w).alloc (Nat.le_refl _) (.cells #[.int .i64 T.k, .string T.t, .int .i64 T.n, .string T.nm, .slice T.xa T.len T.cap] 43)
  go_enter Tryd.func26, Tryd.ntmps26
  go_wp2_with fail
  refine (unhide HZ _ hk0).mono ?_
  rintro e w1 ⟨n, m, rfl, hb1, hn, hm, hy, hz⟩
  have H1 := hide (bnext hk0 hb1)
  obtain ⟨c0, c1, c2, c3, c4⟩ := cells5x (row_below (at_new rfl) hb1)
  clear hk0 hb1 HZ
  by_cases h4 : 4096 < n
  · have HW : Hid (T.wrongX = 4) := hide (by
      have h := hz (.inl h4)
      have hf : T.fits = false := by unfold PT.fits; rw [Bool.and_eq_false_iff, decide_eq_false_iff_not, decide_eq_false_iff_not]; omega
      unfold PT.wrongX; rw [hf]; rfl)
    have g : (4096 : Int) < (n : Int) := by omega
    clear h4 hy hz hn hm
    go_wp2_with fail
    go_ret
    exact ⟨by rw [unhide HW]; rfl, unhide H1⟩
  · have g : ¬ (4096 : Int) < (n : Int) := by omega
    by_cases h2 : 200 < m
    · have HW : Hid (T.wrongX = 4) := hide (by
        have h := hz (.inr h2)
        have hf : T.fits = false := by unfold PT.fits; rw [Bool.and_eq_false_iff, decide_eq_false_iff_not, decide_eq_false_iff_not]; omega
        unfold PT.wrongX; rw [hf]; rfl)
      have g2 : (200 : Int) < (m : Int) := by omega
      clear h4 h2 hy hz hn hm
      go_wp2_with fail
      go_ret
      exact ⟨by rw [unhide HW]; rfl, unhide H1⟩
    · have HW : Hid (T.wrongX = T.badX) := hide (by
        have h := hy (by omega)
        have hf : T.fits = true := by unfold PT.fits; rw [Bool.and_eq_true, decide_eq_true_eq, decide_eq_true_eq]; omega
        unfold PT.wrongX; rw [hf]; rfl)
      have g2 : ¬ (200 : Int) < (m : Int) := by omega
      clear h4 h2 hy hz hn hm
      go_wp2_with fail
      refine (unhide HB _ (unhide H1)).mono ?_
      rintro e w2 ⟨rfl, hb2⟩
      have H2 := hide (bnext (unhide H1) hb2)
      clear hb2
      go_wp2_with fail
      go_ret
      exact ⟨by rw [unhide HW]; rfl, unhide H2⟩
end Go.Proofs.YtpphjddljngkmaaDoor

namespace Go.Proofs.YtpphjddljngkmaaDoor
open Go.RowKit

set_option maxRecDepth 100000 in
set_option maxHeartbeats 400000 in
theorem in_any (k : Int) (l : List Int) (g : Nat) (w : World) (hl : l.length ≤ 24) (hc : ∀ i, i < l.length → w.cell? ⟨g, i, none⟩ = some (.int .i64 (l.getD i 0))) :
    Calls Tryd.prog 60 #[.int .i64 k, .slice (some ⟨g, 0, none⟩) l.length l.length] w fun e w' => e = .returned (.bool (decide (k ∈ l))) ∧ w' = w := by
  have HC := hide hc
  clear hc
  generalize hn : l.length = n at *
  have HN := hide hn
  clear hn
  go_enter Tryd.func60, Tryd.ntmps60
  go_wp2
  go_loop [9] (fun i => ∃ j : Nat, j ≤ n ∧ i = .int .i64 (j : Int) ∧ ∀ q, q < j → l.getD q 0 ≠ k) (fun i => n - (intOf i).toNat)
  case atStart => exact ⟨0, by omega, rfl, fun q hq => by omega⟩
  case round =>
    obtain ⟨j, hj, rfl, hq⟩ := hrel
    have HQ := hide hq
    clear hq
    rcases Nat.lt_or_ge j n with hjt | hjt
    · have c := unhide HC j hjt
      by_cases he : l.getD j 0 = k
      · have HM : Hid (decide (k ∈ l) = true) := hide (by
          rw [decide_eq_true_eq, ← he]
          have : j < l.length := by rw [unhide HN]; exact hjt
          rw [List.getD, List.getElem?_eq_getElem this]
          exact List.getElem_mem this)
        have hb : (l.getD j 0 == k) = true := bt he
        clear he
        generalize l.getD j 0 = x at *
        go_wp2
        go_ret
        exact ⟨by rw [unhide HM]; rfl, rfl⟩
      · have HW : Hid (∀ q, q < j + 1 → l.getD q 0 ≠ k) := hide (fun q hq => by
          rcases Nat.lt_or_ge q j with h | h
          · exact unhide HQ q h
          · rw [show q = j by omega]; exact he)
        have hb : (l.getD j 0 == k) = false := bn he
        clear he
        generalize l.getD j 0 = x at *
        go_wp2
        exact ⟨⟨j + 1, by omega, by go_num, unhide HW⟩, by simp [intOf]; omega⟩
    · have HM : Hid (decide (k ∈ l) = false) := hide (by
        rw [decide_eq_false_iff_not]
        intro hm
        obtain ⟨q, hq, he⟩ := List.getElem_of_mem hm
        refine unhide HQ q (by have := unhide HN; omega) ?_
        rw [List.getD, List.getElem?_eq_getElem hq]
        exact he)
      go_wp2
      go_ret
      exact ⟨by rw [unhide HM]; rfl, rfl⟩
theorem cells_of {w : World} {g : Nat} {l : List Int} {t : TypeId} (h : w.heap[g]? = some (.cells (l.map fun n => Value.int .i64 n).toArray t (0, 0))) : ∀ i, i < l.length → w.cell? ⟨g, i, none⟩ = some (.int .i64 (l.getD i 0)) := fun i hi => by
  rw [cell_of_row _ _ _ _ _ _ h]
  simp [List.getD, hi]
def isText (k : Int) : Bool := decide (k ∈ [3, 4, 5, 6, 7])
theorem in_isText (k : Int) (g : Nat) (w : World) (h : w.heap[g]? = some (.cells #[.int .i64 3, .int .i64 4, .int .i64 5, .int .i64 6, .int .i64 7] 3 (0, 0))) :
    Calls Tryd.prog 60 #[.int .i64 k, .slice (some ⟨g, 0, none⟩) 5 5] w fun e w' => e = .returned (.bool (isText k)) ∧ w' = w := in_any k [3, 4, 5, 6, 7] g w (by decide) (cells_of h)
def isNum (k : Int) : Bool := decide (k ∈ [2, 8, 9, 10, 11])
theorem in_isNum (k : Int) (g : Nat) (w : World) (h : w.heap[g]? = some (.cells #[.int .i64 2, .int .i64 8, .int .i64 9, .int .i64 10, .int .i64 11] 3 (0, 0))) :
    Calls Tryd.prog 60 #[.int .i64 k, .slice (some ⟨g, 0, none⟩) 5 5] w fun e w' => e = .returned (.bool (isNum k)) ∧ w' = w := in_any k [2, 8, 9, 10, 11] g w (by decide) (cells_of h)
def isName (k : Int) : Bool := decide (k ∈ [21, 22, 23, 24])
theorem in_isName (k : Int) (g : Nat) (w : World) (h : w.heap[g]? = some (.cells #[.int .i64 21, .int .i64 22, .int .i64 23, .int .i64 24] 3 (0, 0))) :
    Calls Tryd.prog 60 #[.int .i64 k, .slice (some ⟨g, 0, none⟩) 4 4] w fun e w' => e = .returned (.bool (isName k)) ∧ w' = w := in_any k [21, 22, 23, 24] g w (by decide) (cells_of h)
def isMany (k : Int) : Bool := decide (k ∈ [18, 19])
theorem in_isMany (k : Int) (g : Nat) (w : World) (h : w.heap[g]? = some (.cells #[.int .i64 18, .int .i64 19] 3 (0, 0))) :
    Calls Tryd.prog 60 #[.int .i64 k, .slice (some ⟨g, 0, none⟩) 2 2] w fun e w' => e = .returned (.bool (isMany k)) ∧ w' = w := in_any k [18, 19] g w (by decide) (cells_of h)
def isOne (k : Int) : Bool := decide (k ∈ [20, 21, 22])
theorem in_isOne (k : Int) (g : Nat) (w : World) (h : w.heap[g]? = some (.cells #[.int .i64 20, .int .i64 21, .int .i64 22] 3 (0, 0))) :
    Calls Tryd.prog 60 #[.int .i64 k, .slice (some ⟨g, 0, none⟩) 3 3] w fun e w' => e = .returned (.bool (isOne k)) ∧ w' = w := in_any k [20, 21, 22] g w (by decide) (cells_of h)
def isKids (k : Int) : Bool := decide (k ∈ [18, 19, 20, 21, 22])
theorem in_isKids (k : Int) (g : Nat) (w : World) (h : w.heap[g]? = some (.cells #[.int .i64 18, .int .i64 19, .int .i64 20, .int .i64 21, .int .i64 22] 3 (0, 0))) :
    Calls Tryd.prog 60 #[.int .i64 k, .slice (some ⟨g, 0, none⟩) 5 5] w fun e w' => e = .returned (.bool (isKids k)) ∧ w' = w := in_any k [18, 19, 20, 21, 22] g w (by decide) (cells_of h)
set_option maxRecDepth 100000 in
set_option maxHeartbeats 400000 in
theorem texts_any (k : Int) (w : World) :
    Calls Tryd.prog 58 #[.int .i64 k] w fun e w' => e = .returned (.bool (isText k)) ∧ Below w.heap.size w w' := by
  go_enter Tryd.func58, Tryd.ntmps58
  go_wp2_with (go_at_call 60; refine (in_isText k _ _ (at_new rfl)).mono ?_; rintro e w1 ⟨rfl, rfl⟩)
  go_ret
  exact ⟨rfl, ba _⟩
set_option maxRecDepth 100000 in
set_option maxHeartbeats 400000 in
theorem numbers_any (k : Int) (w : World) :
    Calls Tryd.prog 59 #[.int .i64 k] w fun e w' => e = .returned (.bool (isNum k)) ∧ Below w.heap.size w w' := by
  go_enter Tryd.func59, Tryd.ntmps59
  go_wp2_with (go_at_call 60; refine (in_isNum k _ _ (at_new rfl)).mono ?_; rintro e w1 ⟨rfl, rfl⟩)
  go_ret
  exact ⟨rfl, ba _⟩
end Go.Proofs.YtpphjddljngkmaaDoor
