/- What the document's Show does of kinds with a text or a number. -/
import Derived.Test.YtpphjddljngkmaaGreatDoorRefShow4P
namespace Go.Proofs.YtpphjddljngkmaaGreatDoor
open Go.RowKit
set_option linter.unusedVariables false

theorem digB_size (n : Int) (h0 : 0 ≤ n) (h1 : n ≤ 65536) : (digB n).size ≤ 65537 := by
  obtain ⟨m, rfl⟩ := Int.eq_ofNat_of_zero_le h0
  have := decDigits_len m
  have e : digB (m : Int) = ⟨(Lib.decDigits m).toArray⟩ := by
    unfold digB Lib.itoa
    rw [if_neg (by omega)]
    rfl
  rw [e]
  show (Lib.decDigits m).toArray.size ≤ _
  rw [List.size_toArray]
  omega
set_option maxRecDepth 100000 in
set_option maxHeartbeats 1000000 in
theorem show_txt (T : PT) (hc : 3 ≤ T.k ∧ T.k ≤ 7) : ShowSays T := by
  intro w i hT hbad hcnt hi0 hi2
  obtain ⟨r1, r2, r3, r4, r5, r6, r7⟩ := right_node (bad_zero hbad).1
  have hte := PT.txt_eq r1
  have HT := hide (show isText T.k = true by unfold isText; simp; omega)
  have HNu := hide (show isNum T.k = false by unfold isNum; simp; omega)
  have e1 : (T.k == 1) = false := by rw [beq_eq_false_iff_ne]; omega
  have e20 : (T.k == 20) = false := by rw [beq_eq_false_iff_ne]; omega
  have e21 : (T.k == 21) = false := by rw [beq_eq_false_iff_ne]; omega
  have e22 : (T.k == 22) = false := by rw [beq_eq_false_iff_ne]; omega
  have e23 : (T.k == 23) = false := by rw [beq_eq_false_iff_ne]; omega
  have e24 : (T.k == 24) = false := by rw [beq_eq_false_iff_ne]; omega
  have e18 : (T.k == 18) = false := by rw [beq_eq_false_iff_ne]; omega
  have e19 : (T.k == 19) = false := by rw [beq_eq_false_iff_ne]; omega
  have HR := hide (at_new (w := w) (o := .cells #[.int .i64 T.k, .string T.t, .int .i64 T.n, .string T.nm, .slice T.xa T.len T.cap] 30) rfl)
  have HB := hide ((Below.refl w.heap.size w).alloc (Nat.le_refl _) (.cells #[.int .i64 T.k, .string T.t, .int .i64 T.n, .string T.nm, .slice T.xa T.len T.cap] 30))
  have c0 := hide trivial
  have c1 := hide trivial
  have c2 := hide trivial
  have c3 := hide trivial
  have c4 := hide trivial
  have hh : hasK T.k = 1 := by unfold hasK; rw [if_pos (by omega)]
  obtain ⟨K, hK⟩ : ∃ K : Nat, T.k = (K : Int) := ⟨T.k.toNat, by omega⟩
  have hqs := quoteB_size T.t (r3 hh)
  have hws := wordK_size K
  have hE : (⟨(T.shown i).toArray⟩ : ByteArray) = wordK K ++ ⟨#[40]⟩ ++ quoteB T.t ++ ⟨#[41]⟩ := by
    rw [shown_plain i (by omega), hte, if_neg (by omega), if_neg (by omega), if_neg (by omega), if_neg (by omega), if_neg (by omega), if_neg (by omega), if_neg (by omega)]
    rw [if_neg (by omega), if_pos hh]
    rw [hK]
    apply ByteArray.ext
    apply Array.ext'
    simp [quoteB]
  have HW := hide (fun W => word_any K (by omega) (by omega) W)
  rw [← hK] at HW
  have HQ := hide (fun W => rquoted_any T.t W (r3 hh))
  generalize quoteB T.t = q at *
  generalize wordK K = wd at *
  have g1 : ¬ 9223372036854775807 < wd.size + 1 := by omega
  have g2 : ¬ 9223372036854775807 < wd.size + 1 + q.size := by omega
  have g3 : ¬ 9223372036854775807 < wd.size + 1 + q.size + 1 := by omega
  have HE := hide hE
  clear hE hws hqs hK hh
  clear hT hbad hcnt hi0 hi2 r1 r2 r3 r4 r5 r6 r7 hte hc
  go_enter Tryz.func46, Tryz.ntmps46
  go_wp2_with (first | (go_at_call 52; refine (texts_any _ _).mono ?_; rintro e w1 ⟨rfl, hb⟩; rw [unhide HT]; have HR := hide (row_below (unhide HR) hb); have HB := hide (bnext (unhide HB) hb); clear hb; (try clear c0 c1 c2 c3 c4); obtain ⟨c0, c1, c2, c3, c4⟩ := cells5s (unhide HR)))
  have hA := (Below.refl w1.heap.size w1).drew
  go_region_held3 (fun w' => w'.cell? ⟨w.heap.size, 0, none⟩ = some (.int .i64 T.k) ∧ w'.cell? ⟨w.heap.size, 1, none⟩ = some (.string T.t) ∧ w'.cell? ⟨w.heap.size, 2, none⟩ = some (.int .i64 T.n) ∧ w'.cell? ⟨w.heap.size, 3, none⟩ = some (.string T.nm) ∧ w'.cell? ⟨w.heap.size, 4, none⟩ = some (.slice T.xa T.len T.cap))
    (first | go_keep | exact cells5s (row_below (unhide HR) hA))
    (first
      | (go_at_call 64; (with_reducible refine (unhide HW _).mono ?_); rintro e w2 ⟨rfl, hb2⟩; have hA := bnext hA hb2)
      | (go_at_call 47; (with_reducible refine (unhide HQ _).mono ?_); rintro e w2 ⟨rfl, hb2⟩; have hA := bnext hA hb2))
  all_goals
    have HA := hide hA
    clear hA
    go_wp2_with fail
    go_ret
    exact ⟨by rw [unhide HE]; rfl, bnext (unhide HB) (unhide HA)⟩
set_option maxRecDepth 100000 in
set_option maxHeartbeats 1000000 in
theorem show_num (T : PT) (hc : T.k = 2 ∨ (8 ≤ T.k ∧ T.k ≤ 11)) : ShowSays T := by
  intro w i hT hbad hcnt hi0 hi2
  obtain ⟨r1, r2, r3, r4, r5, r6, r7⟩ := right_node (bad_zero hbad).1
  have hte := PT.txt_eq r1
  have HT := hide (show isText T.k = false by unfold isText; simp; omega)
  have HNu := hide (show isNum T.k = true by unfold isNum; simp; omega)
  have e1 : (T.k == 1) = false := by rw [beq_eq_false_iff_ne]; omega
  have e20 : (T.k == 20) = false := by rw [beq_eq_false_iff_ne]; omega
  have e21 : (T.k == 21) = false := by rw [beq_eq_false_iff_ne]; omega
  have e22 : (T.k == 22) = false := by rw [beq_eq_false_iff_ne]; omega
  have e23 : (T.k == 23) = false := by rw [beq_eq_false_iff_ne]; omega
  have e24 : (T.k == 24) = false := by rw [beq_eq_false_iff_ne]; omega
  have e18 : (T.k == 18) = false := by rw [beq_eq_false_iff_ne]; omega
  have e19 : (T.k == 19) = false := by rw [beq_eq_false_iff_ne]; omega
  have HR := hide (at_new (w := w) (o := .cells #[.int .i64 T.k, .string T.t, .int .i64 T.n, .string T.nm, .slice T.xa T.len T.cap] 30) rfl)
  have HB := hide ((Below.refl w.heap.size w).alloc (Nat.le_refl _) (.cells #[.int .i64 T.k, .string T.t, .int .i64 T.n, .string T.nm, .slice T.xa T.len T.cap] 30))
  have c0 := hide trivial
  have c1 := hide trivial
  have c2 := hide trivial
  have c3 := hide trivial
  have c4 := hide trivial
  have hh : hasK T.k = 2 := by unfold hasK; rw [if_neg (by omega), if_pos (by omega)]
  obtain ⟨K, hK⟩ : ∃ K : Nat, T.k = (K : Int) := ⟨T.k.toNat, by omega⟩
  have hqs : (digB T.n).size ≤ 131074 := by have := digB_size T.n (r4 hh).1 (r4 hh).2; omega
  have hws := wordK_size K
  have hE : (⟨(T.shown i).toArray⟩ : ByteArray) = wordK K ++ ⟨#[40]⟩ ++ digB T.n ++ ⟨#[41]⟩ := by
    rw [shown_plain i (by omega), hte, if_neg (by omega), if_neg (by omega), if_neg (by omega), if_neg (by omega), if_neg (by omega), if_neg (by omega), if_neg (by omega)]
    rw [if_pos hh]
    rw [hK]
    apply ByteArray.ext
    apply Array.ext'
    simp [digB]
  have HW := hide (fun W => word_any K (by omega) (by omega) W)
  rw [← hK] at HW
  have HQ := hide (fun W => (digits_any T.n W (r4 hh).1 (r4 hh).2).mono fun e w' (h : _ ∧ _) => (⟨h.1, h.2 ▸ Below.refl _ _⟩ : e = .returned (.string (digB T.n)) ∧ Below W.heap.size W w'))
  generalize digB T.n = q at *
  generalize wordK K = wd at *
  have g1 : ¬ 9223372036854775807 < wd.size + 1 := by omega
  have g2 : ¬ 9223372036854775807 < wd.size + 1 + q.size := by omega
  have g3 : ¬ 9223372036854775807 < wd.size + 1 + q.size + 1 := by omega
  have HE := hide hE
  clear hE hws hqs hK hh
  clear hT hbad hcnt hi0 hi2 r1 r2 r3 r4 r5 r6 r7 hte hc
  go_enter Tryz.func46, Tryz.ntmps46
  go_wp2_with (first | (go_at_call 52; refine (texts_any _ _).mono ?_; rintro e w1 ⟨rfl, hb⟩; rw [unhide HT]; have HR := hide (row_below (unhide HR) hb); have HB := hide (bnext (unhide HB) hb); clear hb; (try clear c0 c1 c2 c3 c4); obtain ⟨c0, c1, c2, c3, c4⟩ := cells5s (unhide HR)) | (go_at_call 53; refine (numbers_any _ _).mono ?_; rintro e w1 ⟨rfl, hb⟩; rw [unhide HNu]; have HR := hide (row_below (unhide HR) hb); have HB := hide (bnext (unhide HB) hb); clear hb; (try clear c0 c1 c2 c3 c4); obtain ⟨c0, c1, c2, c3, c4⟩ := cells5s (unhide HR)))
  have hA := (Below.refl w1.heap.size w1).drew
  go_region_held3 (fun w' => w'.cell? ⟨w.heap.size, 0, none⟩ = some (.int .i64 T.k) ∧ w'.cell? ⟨w.heap.size, 1, none⟩ = some (.string T.t) ∧ w'.cell? ⟨w.heap.size, 2, none⟩ = some (.int .i64 T.n) ∧ w'.cell? ⟨w.heap.size, 3, none⟩ = some (.string T.nm) ∧ w'.cell? ⟨w.heap.size, 4, none⟩ = some (.slice T.xa T.len T.cap))
    (first | go_keep | exact cells5s (row_below (unhide HR) hA))
    (first
      | (go_at_call 64; (with_reducible refine (unhide HW _).mono ?_); rintro e w2 ⟨rfl, hb2⟩; have hA := bnext hA hb2)
      | (go_at_call 65; (with_reducible refine (unhide HQ _).mono ?_); rintro e w2 ⟨rfl, hb2⟩; have hA := bnext hA hb2))
  all_goals
    have HA := hide hA
    clear hA
    go_wp2_with fail
    go_ret
    exact ⟨by rw [unhide HE]; rfl, bnext (unhide HB) (unhide HA)⟩
end Go.Proofs.YtpphjddljngkmaaGreatDoor
