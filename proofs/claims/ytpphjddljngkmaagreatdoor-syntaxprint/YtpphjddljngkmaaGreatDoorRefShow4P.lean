/- What the document's Show does, kind by kind. -/
import Derived.Test.YtpphjddljngkmaaGreatDoorRefDigits4M
import Derived.Test.YtpphjddljngkmaaGreatDoorRefWord4P
import Derived.Test.YtpphjddljngkmaaGreatDoorPrintSaid4M
import Derived.Test.YtpphjddljngkmaaGreatDoorPatRightM
import Derived.Deep.RegionHeld3
namespace Go.Proofs.YtpphjddljngkmaaGreatDoor
open Go.RowKit
set_option linter.unusedVariables false

/-- A pattern's text within something: 2 nothing, 1 alternatives, 0 pieces or gifts. -/
def PT.shown (T : PT) (i : Int) : List UInt8 := inB ((decide (T.k = 18) && decide (i = 0)) || (decide (T.k = 19) && decide (i < 2))) T.txt
def ShowSays (T : PT) : Prop := ∀ (w : World) (i : Int), T.In w → T.bad = 0 → T.cnt ≤ 4096 → 0 ≤ i → i ≤ 2 →
  Calls Tryz.prog 46 #[.agg #[.int .i64 T.k, .string T.t, .int .i64 T.n, .string T.nm, .slice T.xa T.len T.cap], .int .i64 i] w fun e w' => e = .returned (.string ⟨(T.shown i).toArray⟩) ∧ Below w.heap.size w w'
theorem shown_plain {T : PT} (i : Int) (h : T.k ≠ 18 ∧ T.k ≠ 19) : T.shown i = T.txt := by
  unfold PT.shown inB
  rw [decide_eq_false h.1, decide_eq_false h.2]
  rfl
set_option maxRecDepth 100000 in
set_option maxHeartbeats 1000000 in
theorem show_lit (T : PT) (hc : T.k = 1) : ShowSays T := by
  intro w i hT hbad hcnt hi0 hi2
  obtain ⟨r1, r2, r3, r4, r5, r6, r7⟩ := right_node (bad_zero hbad).1
  have hte := PT.txt_eq r1
  have HT := hide (show isText T.k = false by unfold isText; simp; omega)
  have HNu := hide (show isNum T.k = false by unfold isNum; simp; omega)
  have e1 : (T.k == 1) = true := by rw [beq_iff_eq]; omega
  have e20 : (T.k == 20) = false := by rw [beq_eq_false_iff_ne]; omega
  have e21 : (T.k == 21) = false := by rw [beq_eq_false_iff_ne]; omega
  have e22 : (T.k == 22) = false := by rw [beq_eq_false_iff_ne]; omega
  have e23 : (T.k == 23) = false := by rw [beq_eq_false_iff_ne]; omega
  have e24 : (T.k == 24) = false := by rw [beq_eq_false_iff_ne]; omega
  have e18 : (T.k == 18) = false := by rw [beq_eq_false_iff_ne]; omega
  have e19 : (T.k == 19) = false := by rw [beq_eq_false_iff_ne]; omega
  have HR := hide (at_new (w := w) (o := .cells #[.int .i64 T.k, .string T.t, .int .i64 T.n, .string T.nm, .slice T.xa T.len T.cap] 30) rfl)
  have HB := hide ((Below.refl w.heap.size w).alloc (Nat.le_refl _) (.cells #[.int .i64 T.k, .string T.t, .int .i64 T.n, .string T.nm, .slice T.xa T.len T.cap] 30))
  have c0 := hide trivial
  have c1 := hide trivial
  have c2 := hide trivial
  have c3 := hide trivial
  have c4 := hide trivial
  have HE := hide (show (⟨(T.shown i).toArray⟩ : ByteArray) = quoteB T.t by rw [shown_plain i (by omega), hte, if_pos hc]; rfl)
  have HZ := hide (r3 (by unfold hasK; rw [if_pos (by omega)]))
  clear hT hbad hcnt hi0 hi2 r1 r2 r3 r4 r5 r6 r7 hte hc
  go_enter Tryz.func46, Tryz.ntmps46
  go_wp2_with (first | (go_at_call 47; refine (rquoted_any _ _ (unhide HZ)).mono ?_; rintro e w1 ⟨rfl, hb⟩; have HB := hide (bnext (unhide HB) hb); clear hb))
  go_ret
  exact ⟨by rw [unhide HE]; rfl, unhide HB⟩
set_option maxRecDepth 100000 in
set_option maxHeartbeats 1000000 in
theorem show_cur (T : PT) (hc : T.k = 23) : ShowSays T := by
  intro w i hT hbad hcnt hi0 hi2
  obtain ⟨r1, r2, r3, r4, r5, r6, r7⟩ := right_node (bad_zero hbad).1
  have hte := PT.txt_eq r1
  have HT := hide (show isText T.k = false by unfold isText; simp; omega)
  have HNu := hide (show isNum T.k = false by unfold isNum; simp; omega)
  have e1 : (T.k == 1) = false := by rw [beq_eq_false_iff_ne]; omega
  have e20 : (T.k == 20) = false := by rw [beq_eq_false_iff_ne]; omega
  have e21 : (T.k == 21) = false := by rw [beq_eq_false_iff_ne]; omega
  have e22 : (T.k == 22) = false := by rw [beq_eq_false_iff_ne]; omega
  have e23 : (T.k == 23) = true := by rw [beq_iff_eq]; omega
  have e24 : (T.k == 24) = false := by rw [beq_eq_false_iff_ne]; omega
  have e18 : (T.k == 18) = false := by rw [beq_eq_false_iff_ne]; omega
  have e19 : (T.k == 19) = false := by rw [beq_eq_false_iff_ne]; omega
  have HR := hide (at_new (w := w) (o := .cells #[.int .i64 T.k, .string T.t, .int .i64 T.n, .string T.nm, .slice T.xa T.len T.cap] 30) rfl)
  have HB := hide ((Below.refl w.heap.size w).alloc (Nat.le_refl _) (.cells #[.int .i64 T.k, .string T.t, .int .i64 T.n, .string T.nm, .slice T.xa T.len T.cap] 30))
  have c0 := hide trivial
  have c1 := hide trivial
  have c2 := hide trivial
  have c3 := hide trivial
  have c4 := hide trivial
  have HE := hide (show (⟨(T.shown i).toArray⟩ : ByteArray) = ⟨#[64]⟩ ++ T.nm by
    rw [shown_plain i (by omega), hte, if_neg (by omega), if_neg (by omega), if_neg (by omega), if_neg (by omega), if_neg (by omega), if_pos hc]
    apply ByteArray.ext
    apply Array.ext'
    simp)
  have g1 : ¬ 9223372036854775807 < 1 + T.nm.size := by have := named_zero (bad_zero hbad).1 (by omega); omega
  clear hT hbad hcnt hi0 hi2 r1 r2 r3 r4 r5 r6 r7 hte hc
  go_enter Tryz.func46, Tryz.ntmps46
  go_wp2_with (first | (go_at_call 52; refine (texts_any _ _).mono ?_; rintro e w1 ⟨rfl, hb⟩; rw [unhide HT]; have HR := hide (row_below (unhide HR) hb); have HB := hide (bnext (unhide HB) hb); clear hb; (try clear c0 c1 c2 c3 c4); obtain ⟨c0, c1, c2, c3, c4⟩ := cells5s (unhide HR)) | (go_at_call 53; refine (numbers_any _ _).mono ?_; rintro e w1 ⟨rfl, hb⟩; rw [unhide HNu]; have HR := hide (row_below (unhide HR) hb); have HB := hide (bnext (unhide HB) hb); clear hb; (try clear c0 c1 c2 c3 c4); obtain ⟨c0, c1, c2, c3, c4⟩ := cells5s (unhide HR)))
  go_ret
  exact ⟨by rw [unhide HE]; rfl, unhide HB⟩
set_option maxRecDepth 100000 in
set_option maxHeartbeats 1000000 in
theorem show_call (T : PT) (hc : T.k = 24) : ShowSays T := by
  intro w i hT hbad hcnt hi0 hi2
  obtain ⟨r1, r2, r3, r4, r5, r6, r7⟩ := right_node (bad_zero hbad).1
  have hte := PT.txt_eq r1
  have HT := hide (show isText T.k = false by unfold isText; simp; omega)
  have HNu := hide (show isNum T.k = false by unfold isNum; simp; omega)
  have e1 : (T.k == 1) = false := by rw [beq_eq_false_iff_ne]; omega
  have e20 : (T.k == 20) = false := by rw [beq_eq_false_iff_ne]; omega
  have e21 : (T.k == 21) = false := by rw [beq_eq_false_iff_ne]; omega
  have e22 : (T.k == 22) = false := by rw [beq_eq_false_iff_ne]; omega
  have e23 : (T.k == 23) = false := by rw [beq_eq_false_iff_ne]; omega
  have e24 : (T.k == 24) = true := by rw [beq_iff_eq]; omega
  have e18 : (T.k == 18) = false := by rw [beq_eq_false_iff_ne]; omega
  have e19 : (T.k == 19) = false := by rw [beq_eq_false_iff_ne]; omega
  have HR := hide (at_new (w := w) (o := .cells #[.int .i64 T.k, .string T.t, .int .i64 T.n, .string T.nm, .slice T.xa T.len T.cap] 30) rfl)
  have HB := hide ((Below.refl w.heap.size w).alloc (Nat.le_refl _) (.cells #[.int .i64 T.k, .string T.t, .int .i64 T.n, .string T.nm, .slice T.xa T.len T.cap] 30))
  have c0 := hide trivial
  have c1 := hide trivial
  have c2 := hide trivial
  have c3 := hide trivial
  have c4 := hide trivial
  have HE := hide (show (⟨(T.shown i).toArray⟩ : ByteArray) = ⟨#[42]⟩ ++ T.nm by
    rw [shown_plain i (by omega), hte, if_neg (by omega), if_neg (by omega), if_neg (by omega), if_neg (by omega), if_neg (by omega), if_neg (by omega), if_pos hc]
    apply ByteArray.ext
    apply Array.ext'
    simp)
  have g1 : ¬ 9223372036854775807 < 1 + T.nm.size := by have := named_zero (bad_zero hbad).1 (by omega); omega
  clear hT hbad hcnt hi0 hi2 r1 r2 r3 r4 r5 r6 r7 hte hc
  go_enter Tryz.func46, Tryz.ntmps46
  go_wp2_with (first | (go_at_call 52; refine (texts_any _ _).mono ?_; rintro e w1 ⟨rfl, hb⟩; rw [unhide HT]; have HR := hide (row_below (unhide HR) hb); have HB := hide (bnext (unhide HB) hb); clear hb; (try clear c0 c1 c2 c3 c4); obtain ⟨c0, c1, c2, c3, c4⟩ := cells5s (unhide HR)) | (go_at_call 53; refine (numbers_any _ _).mono ?_; rintro e w1 ⟨rfl, hb⟩; rw [unhide HNu]; have HR := hide (row_below (unhide HR) hb); have HB := hide (bnext (unhide HB) hb); clear hb; (try clear c0 c1 c2 c3 c4); obtain ⟨c0, c1, c2, c3, c4⟩ := cells5s (unhide HR)))
  go_ret
  exact ⟨by rw [unhide HE]; rfl, unhide HB⟩
set_option maxRecDepth 100000 in
set_option maxHeartbeats 1000000 in
theorem show_none (T : PT) (hc : 12 ≤ T.k ∧ T.k ≤ 17) : ShowSays T := by
  intro w i hT hbad hcnt hi0 hi2
  obtain ⟨r1, r2, r3, r4, r5, r6, r7⟩ := right_node (bad_zero hbad).1
  have hte := PT.txt_eq r1
  have HT := hide (show isText T.k = false by unfold isText; simp; omega)
  have HNu := hide (show isNum T.k = false by unfold isNum; simp; omega)
  have e1 : (T.k == 1) = false := by rw [beq_eq_false_iff_ne]; omega
  have e20 : (T.k == 20) = false := by rw [beq_eq_false_iff_ne]; omega
  have e21 : (T.k == 21) = false := by rw [beq_eq_false_iff_ne]; omega
  have e22 : (T.k == 22) = false := by rw [beq_eq_false_iff_ne]; omega
  have e23 : (T.k == 23) = false := by rw [beq_eq_false_iff_ne]; omega
  have e24 : (T.k == 24) = false := by rw [beq_eq_false_iff_ne]; omega
  have e18 : (T.k == 18) = false := by rw [beq_eq_false_iff_ne]; omega
  have e19 : (T.k == 19) = false := by rw [beq_eq_false_iff_ne]; omega
  have HR := hide (at_new (w := w) (o := .cells #[.int .i64 T.k, .string T.t, .int .i64 T.n, .string T.nm, .slice T.xa T.len T.cap] 30) rfl)
  have HB := hide ((Below.refl w.heap.size w).alloc (Nat.le_refl _) (.cells #[.int .i64 T.k, .string T.t, .int .i64 T.n, .string T.nm, .slice T.xa T.len T.cap] 30))
  have c0 := hide trivial
  have c1 := hide trivial
  have c2 := hide trivial
  have c3 := hide trivial
  have c4 := hide trivial
  obtain ⟨K, hK⟩ : ∃ K : Nat, T.k = (K : Int) := ⟨T.k.toNat, by omega⟩
  have HE := hide (show (⟨(T.shown i).toArray⟩ : ByteArray) = wordK K by
    rw [shown_plain i (by omega), hte, if_neg (by omega), if_neg (by omega), if_neg (by omega), if_neg (by omega), if_neg (by omega), if_neg (by omega), if_neg (by omega)]
    have h1 : hasK T.k = 0 := by unfold hasK; rw [if_neg (by omega), if_neg (by omega), if_neg (by omega)]
    rw [if_neg (by omega), if_neg (by omega), if_neg (by omega), List.append_nil, hK]
    rfl)
  have HKK := hide (show 1 ≤ K ∧ K ≤ 24 by omega)
  have HK := hide hK
  clear hK
  clear hT hbad hcnt hi0 hi2 r1 r2 r3 r4 r5 r6 r7 hte hc
  go_enter Tryz.func46, Tryz.ntmps46
  go_wp2_with (first | (go_at_call 52; refine (texts_any _ _).mono ?_; rintro e w1 ⟨rfl, hb⟩; rw [unhide HT]; have HR := hide (row_below (unhide HR) hb); have HB := hide (bnext (unhide HB) hb); clear hb; (try clear c0 c1 c2 c3 c4); obtain ⟨c0, c1, c2, c3, c4⟩ := cells5s (unhide HR)) | (go_at_call 53; refine (numbers_any _ _).mono ?_; rintro e w1 ⟨rfl, hb⟩; rw [unhide HNu]; have HR := hide (row_below (unhide HR) hb); have HB := hide (bnext (unhide HB) hb); clear hb; (try clear c0 c1 c2 c3 c4); obtain ⟨c0, c1, c2, c3, c4⟩ := cells5s (unhide HR)) | (go_at_call 64; rw [unhide HK]; refine (word_any K (unhide HKK).1 (unhide HKK).2 _).mono ?_; rintro e w1 ⟨rfl, hb⟩; have HB := hide (bnext (unhide HB) hb); clear hb))
  go_ret
  exact ⟨by rw [unhide HE]; rfl, unhide HB⟩
end Go.Proofs.YtpphjddljngkmaaGreatDoor
