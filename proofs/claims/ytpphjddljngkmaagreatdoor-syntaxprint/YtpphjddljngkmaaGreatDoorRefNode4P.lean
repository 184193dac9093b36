/- What the document's Node does, for every pattern that is not too large. -/
import Derived.Test.YtpphjddljngkmaaGreatDoorPrintSaid4M
namespace Go.Proofs.YtpphjddljngkmaaGreatDoor
open Go.RowKit
set_option linter.unusedVariables false

theorem cells5 {W : World} {g : Nat} {a b c d e : Value} {t : TypeId} (h : W.heap[g]? = some (.cells #[a, b, c, d, e] t (0, 0))) :
    W.cell? ⟨g, 0, none⟩ = some a ∧ W.cell? ⟨g, 1, none⟩ = some b ∧ W.cell? ⟨g, 2, none⟩ = some c ∧ W.cell? ⟨g, 3, none⟩ = some d ∧ W.cell? ⟨g, 4, none⟩ = some e := by
  refine ⟨?_, ?_, ?_, ?_, ?_⟩ <;> rw [cell_of_row _ _ _ _ _ _ h] <;> rfl
set_option maxRecDepth 100000 in
set_option maxHeartbeats 1000000 in
theorem rnode_kind (T : PT) (w : World) (h : T.k < 1 ∨ 24 < T.k) :
    Calls Tryz.prog 40 #[pv T] w fun e w' => e = .returned (.int .i64 (errN T)) ∧ Below w.heap.size w w' := by
  unfold pv
  have HE := hide (show errN T = 1 by unfold errN; rw [if_pos h])
  rw [unhide HE]
  rcases h with h | h
  · go_enter Tryz.func40, Tryz.ntmps40
    go_wp2_with fail
    go_ret
    exact ⟨rfl, (Below.refl _ _).alloc (Nat.le_refl _) _⟩
  · have h1 : ¬ T.k < 1 := by omega
    go_enter Tryz.func40, Tryz.ntmps40
    go_wp2_with fail
    go_ret
    exact ⟨rfl, (Below.refl _ _).alloc (Nat.le_refl _) _⟩
theorem errN_much (T : PT) (h : T.k = 1 ∨ (3 ≤ T.k ∧ T.k ≤ 7)) (hl : 65536 < T.t.size) : errN T = 4 := by
  unfold errN hasK; rw [if_neg (by omega), if_pos ⟨by rw [if_pos h], hl⟩]
theorem errN_empty (T : PT) (h : 3 ≤ T.k ∧ T.k ≤ 7) (hl : T.t.size = 0) : errN T = 8 := by
  unfold errN hasK; rw [if_neg (by omega), if_neg (by omega), if_pos ⟨by rw [if_pos (.inr h)], by omega, hl⟩]
theorem errN_range (T : PT) (h : T.k = 2 ∨ (8 ≤ T.k ∧ T.k ≤ 11)) (hl : T.n < 0 ∨ 65536 < T.n) : errN T = 3 := by
  unfold errN hasK; rw [if_neg (by omega), if_neg (fun x => by rw [if_neg (by omega), if_pos h] at x; omega), if_neg (fun x => by rw [if_neg (by omega), if_pos h] at x; omega), if_pos ⟨by rw [if_neg (by omega), if_pos h], hl⟩]
theorem errN_name (T : PT) (h : 21 ≤ T.k ∧ T.k ≤ 24) (hl : named T.nm = false) : errN T = 7 := by
  have e : hasK T.k = 3 := by unfold hasK; rw [if_neg (by omega), if_neg (by omega), if_pos h]
  unfold errN; rw [if_neg (by omega), if_neg (by omega), if_neg (by omega), if_neg (by omega), if_pos ⟨e, hl⟩]
/-- Nothing is wrong but perhaps how many kids there are. -/
theorem errN_kids (T : PT) (h0 : 1 ≤ T.k ∧ T.k ≤ 24) (h1 : hasK T.k = 1 → T.t.size ≤ 65536 ∧ (T.k = 1 ∨ T.t.size ≠ 0)) (h2 : hasK T.k = 2 → 0 ≤ T.n ∧ T.n ≤ 65536) (h3 : hasK T.k = 3 → named T.nm = true) :
    errN T = if (T.len : Int) < leastK T.k ∨ mostK T.k < (T.len : Int) then 5 else 0 := by
  unfold errN
  rw [if_neg (by omega), if_neg (fun x => by have := h1 x.1; omega), if_neg (fun x => by have := h1 x.1; omega), if_neg (fun x => by have := h2 x.1; omega), if_neg (fun x => by rw [h3 x.1] at x; simp at x)]
theorem has_lit (T : PT) (hc : T.k = 1) : hasK T.k = 1 ∧ leastK T.k = 0 ∧ mostK T.k = 0 := by
  refine ⟨by unfold hasK; rw [if_pos (by omega)], ?_, ?_⟩
  · unfold leastK; rw [if_neg (by omega), if_neg (by omega)]
  · unfold mostK; rw [if_neg (by omega), if_neg (by omega)]
theorem has_txt (T : PT) (hc : 3 ≤ T.k ∧ T.k ≤ 7) : hasK T.k = 1 ∧ leastK T.k = 0 ∧ mostK T.k = 0 := by
  refine ⟨by unfold hasK; rw [if_pos (by omega)], ?_, ?_⟩
  · unfold leastK; rw [if_neg (by omega), if_neg (by omega)]
  · unfold mostK; rw [if_neg (by omega), if_neg (by omega)]
theorem has_num (T : PT) (hc : T.k = 2 ∨ (8 ≤ T.k ∧ T.k ≤ 11)) : hasK T.k = 2 ∧ leastK T.k = 0 ∧ mostK T.k = 0 := by
  refine ⟨by unfold hasK; rw [if_neg (by omega), if_pos (by omega)], ?_, ?_⟩
  · unfold leastK; rw [if_neg (by omega), if_neg (by omega)]
  · unfold mostK; rw [if_neg (by omega), if_neg (by omega)]
theorem has_nod (T : PT) (hc : 12 ≤ T.k ∧ T.k ≤ 17) : hasK T.k = 0 ∧ leastK T.k = 0 ∧ mostK T.k = 0 := by
  refine ⟨by unfold hasK; rw [if_neg (by omega), if_neg (by omega), if_neg (by omega)], ?_, ?_⟩
  · unfold leastK; rw [if_neg (by omega), if_neg (by omega)]
  · unfold mostK; rw [if_neg (by omega), if_neg (by omega)]
theorem has_man (T : PT) (hc : T.k = 18 ∨ T.k = 19) : hasK T.k = 0 ∧ leastK T.k = 2 ∧ mostK T.k = 4096 := by
  refine ⟨by unfold hasK; rw [if_neg (by omega), if_neg (by omega), if_neg (by omega)], ?_, ?_⟩
  · unfold leastK; rw [if_pos (by omega)]
  · unfold mostK; rw [if_pos (by omega)]
theorem has_arb (T : PT) (hc : T.k = 20) : hasK T.k = 0 ∧ leastK T.k = 1 ∧ mostK T.k = 1 := by
  refine ⟨by unfold hasK; rw [if_neg (by omega), if_neg (by omega), if_neg (by omega)], ?_, ?_⟩
  · unfold leastK; rw [if_neg (by omega), if_pos (by omega)]
  · unfold mostK; rw [if_neg (by omega), if_pos (by omega)]
theorem has_giv (T : PT) (hc : T.k = 21 ∨ T.k = 22) : hasK T.k = 3 ∧ leastK T.k = 1 ∧ mostK T.k = 1 := by
  refine ⟨by unfold hasK; rw [if_neg (by omega), if_neg (by omega), if_pos (by omega)], ?_, ?_⟩
  · unfold leastK; rw [if_neg (by omega), if_pos (by omega)]
  · unfold mostK; rw [if_neg (by omega), if_pos (by omega)]
theorem has_nam (T : PT) (hc : T.k = 23 ∨ T.k = 24) : hasK T.k = 3 ∧ leastK T.k = 0 ∧ mostK T.k = 0 := by
  refine ⟨by unfold hasK; rw [if_neg (by omega), if_neg (by omega), if_pos (by omega)], ?_, ?_⟩
  · unfold leastK; rw [if_neg (by omega), if_neg (by omega)]
  · unfold mostK; rw [if_neg (by omega), if_neg (by omega)]
set_option maxRecDepth 100000 in
set_option maxHeartbeats 400000 in
theorem rnode_lit_much (T : PT) (w : World) (hc : T.k = 1) (hN : T.nm.size ≤ maxLen) (hL : T.len ≤ 4096) (hl : 65536 < T.t.size) :
    Calls Tryz.prog 40 #[pv T] w fun e w' => e = .returned (.int .i64 (errN T)) ∧ Below w.heap.size w w' := by
  unfold pv
  have HE := hide (show errN T = 4 from errN_much T (by omega) hl)
  rw [unhide HE]
  have HT := hide (show isText T.k = false by unfold isText; simp; omega)
  have HNu := hide (show isNum T.k = false by unfold isNum; simp; omega)
  have HNa := hide (show isName T.k = false by unfold isName; simp; omega)
  have HMa := hide (show isMany T.k = false by unfold isMany; simp; omega)
  have HOn := hide (show isOne T.k = false by unfold isOne; simp; omega)
  have HKi := hide (show isKids T.k = false by unfold isKids; simp; omega)
  have h1 : ¬ T.k < 1 := by omega
  have h2 : ¬ 24 < T.k := by omega
  have h3 : (T.k == 1) = true := by rw [beq_iff_eq]; omega
  have h4 : 65536 < (T.t.size : Int) := by omega

  have HNm := hide (And.intro hN trivial)
  clear hN hc HE
  have HR := hide (at_new (w := w) (o := .cells #[.int .i64 T.k, .string T.t, .int .i64 T.n, .string T.nm, .slice T.xa T.len T.cap] 30) rfl)
  have HB := hide ((Below.refl w.heap.size w).alloc (Nat.le_refl _) (.cells #[.int .i64 T.k, .string T.t, .int .i64 T.n, .string T.nm, .slice T.xa T.len T.cap] 30))
  have c0 := hide trivial
  have c1 := hide trivial
  have c2 := hide trivial
  have c3 := hide trivial
  have c4 := hide trivial
  go_enter Tryz.func40, Tryz.ntmps40
  go_wp2_with (first | (go_at_call 52; refine (texts_any _ _).mono ?_; rintro e w1 ⟨rfl, hb⟩; rw [unhide HT]; have HR := hide (row_below (unhide HR) hb); have HB := hide (bnext (unhide HB) hb); clear hb; (try clear c0 c1 c2 c3 c4); obtain ⟨c0, c1, c2, c3, c4⟩ := cells5 (unhide HR)) | (go_at_call 53; refine (numbers_any _ _).mono ?_; rintro e w1 ⟨rfl, hb⟩; rw [unhide HNu]; have HR := hide (row_below (unhide HR) hb); have HB := hide (bnext (unhide HB) hb); clear hb; (try clear c0 c1 c2 c3 c4); obtain ⟨c0, c1, c2, c3, c4⟩ := cells5 (unhide HR)) | (go_at_call 22; refine (refNamed_any _ _ (unhide HNm).1).mono ?_; rintro e w1 ⟨rfl, hb⟩; rw [(unhide HNm).2]; have HR := hide (row_below (unhide HR) hb); have HB := hide (bnext (unhide HB) hb); clear hb; (try clear c0 c1 c2 c3 c4); obtain ⟨c0, c1, c2, c3, c4⟩ := cells5 (unhide HR)) | (go_at_call 54; (with_reducible refine (in_isName _ _ _ ?_).mono ?_); (exact at_new rfl); rintro e w1 ⟨rfl, hw⟩; rw [unhide HNa]; have hb := (show Below _ _ w1 by rw [hw]; exact (Below.refl _ _).alloc (Nat.le_refl _) _); clear hw; have HR := hide (row_below (unhide HR) hb); have HB := hide (bnext (unhide HB) hb); clear hb; (try clear c0 c1 c2 c3 c4); obtain ⟨c0, c1, c2, c3, c4⟩ := cells5 (unhide HR)) | (go_at_call 54; (with_reducible refine (in_isMany _ _ _ ?_).mono ?_); (exact at_new rfl); rintro e w1 ⟨rfl, hw⟩; rw [unhide HMa]; have hb := (show Below _ _ w1 by rw [hw]; exact (Below.refl _ _).alloc (Nat.le_refl _) _); clear hw; have HR := hide (row_below (unhide HR) hb); have HB := hide (bnext (unhide HB) hb); clear hb; (try clear c0 c1 c2 c3 c4); obtain ⟨c0, c1, c2, c3, c4⟩ := cells5 (unhide HR)) | (go_at_call 54; (with_reducible refine (in_isOne _ _ _ ?_).mono ?_); (exact at_new rfl); rintro e w1 ⟨rfl, hw⟩; rw [unhide HOn]; have hb := (show Below _ _ w1 by rw [hw]; exact (Below.refl _ _).alloc (Nat.le_refl _) _); clear hw; have HR := hide (row_below (unhide HR) hb); have HB := hide (bnext (unhide HB) hb); clear hb; (try clear c0 c1 c2 c3 c4); obtain ⟨c0, c1, c2, c3, c4⟩ := cells5 (unhide HR)) | (go_at_call 54; (with_reducible refine (in_isKids _ _ _ ?_).mono ?_); (exact at_new rfl); rintro e w1 ⟨rfl, hw⟩; rw [unhide HKi]; have hb := (show Below _ _ w1 by rw [hw]; exact (Below.refl _ _).alloc (Nat.le_refl _) _); clear hw; have HR := hide (row_below (unhide HR) hb); have HB := hide (bnext (unhide HB) hb); clear hb; (try clear c0 c1 c2 c3 c4); obtain ⟨c0, c1, c2, c3, c4⟩ := cells5 (unhide HR)))
  go_ret
  exact ⟨rfl, unhide HB⟩
set_option maxRecDepth 100000 in
set_option maxHeartbeats 400000 in
theorem rnode_lit_kids (T : PT) (w : World) (hc : T.k = 1) (hN : T.nm.size ≤ maxLen) (hL : T.len ≤ 4096) (ht : T.t.size ≤ 65536) (hk : T.len ≠ 0) :
    Calls Tryz.prog 40 #[pv T] w fun e w' => e = .returned (.int .i64 (errN T)) ∧ Below w.heap.size w w' := by
  unfold pv
  have HE := hide (show errN T = 5 from by
    obtain ⟨e1, e2, e3⟩ := has_lit T hc
    rw [errN_kids T (by omega) (fun x => by omega) (fun x => by omega) (fun x => by omega), e2, e3]
    exact if_pos (by omega))
  rw [unhide HE]
  have HT := hide (show isText T.k = false by unfold isText; simp; omega)
  have HNu := hide (show isNum T.k = false by unfold isNum; simp; omega)
  have HNa := hide (show isName T.k = false by unfold isName; simp; omega)
  have HMa := hide (show isMany T.k = false by unfold isMany; simp; omega)
  have HOn := hide (show isOne T.k = false by unfold isOne; simp; omega)
  have HKi := hide (show isKids T.k = false by unfold isKids; simp; omega)
  have h1 : ¬ T.k < 1 := by omega
  have h2 : ¬ 24 < T.k := by omega
  have h3 : (T.k == 1) = true := by rw [beq_iff_eq]; omega
  have h4 : ¬ 65536 < (T.t.size : Int) := by omega
  have h6 : ((T.len : Int) != 0) = true := by rw [bne_iff_ne]; omega
  clear hk

  have HNm := hide (And.intro hN trivial)
  clear hN hc HE
  have HR := hide (at_new (w := w) (o := .cells #[.int .i64 T.k, .string T.t, .int .i64 T.n, .string T.nm, .slice T.xa T.len T.cap] 30) rfl)
  have HB := hide ((Below.refl w.heap.size w).alloc (Nat.le_refl _) (.cells #[.int .i64 T.k, .string T.t, .int .i64 T.n, .string T.nm, .slice T.xa T.len T.cap] 30))
  have c0 := hide trivial
  have c1 := hide trivial
  have c2 := hide trivial
  have c3 := hide trivial
  have c4 := hide trivial
  go_enter Tryz.func40, Tryz.ntmps40
  go_wp2_with (first | (go_at_call 52; refine (texts_any _ _).mono ?_; rintro e w1 ⟨rfl, hb⟩; rw [unhide HT]; have HR := hide (row_below (unhide HR) hb); have HB := hide (bnext (unhide HB) hb); clear hb; (try clear c0 c1 c2 c3 c4); obtain ⟨c0, c1, c2, c3, c4⟩ := cells5 (unhide HR)) | (go_at_call 53; refine (numbers_any _ _).mono ?_; rintro e w1 ⟨rfl, hb⟩; rw [unhide HNu]; have HR := hide (row_below (unhide HR) hb); have HB := hide (bnext (unhide HB) hb); clear hb; (try clear c0 c1 c2 c3 c4); obtain ⟨c0, c1, c2, c3, c4⟩ := cells5 (unhide HR)) | (go_at_call 22; refine (refNamed_any _ _ (unhide HNm).1).mono ?_; rintro e w1 ⟨rfl, hb⟩; rw [(unhide HNm).2]; have HR := hide (row_below (unhide HR) hb); have HB := hide (bnext (unhide HB) hb); clear hb; (try clear c0 c1 c2 c3 c4); obtain ⟨c0, c1, c2, c3, c4⟩ := cells5 (unhide HR)) | (go_at_call 54; (with_reducible refine (in_isName _ _ _ ?_).mono ?_); (exact at_new rfl); rintro e w1 ⟨rfl, hw⟩; rw [unhide HNa]; have hb := (show Below _ _ w1 by rw [hw]; exact (Below.refl _ _).alloc (Nat.le_refl _) _); clear hw; have HR := hide (row_below (unhide HR) hb); have HB := hide (bnext (unhide HB) hb); clear hb; (try clear c0 c1 c2 c3 c4); obtain ⟨c0, c1, c2, c3, c4⟩ := cells5 (unhide HR)) | (go_at_call 54; (with_reducible refine (in_isMany _ _ _ ?_).mono ?_); (exact at_new rfl); rintro e w1 ⟨rfl, hw⟩; rw [unhide HMa]; have hb := (show Below _ _ w1 by rw [hw]; exact (Below.refl _ _).alloc (Nat.le_refl _) _); clear hw; have HR := hide (row_below (unhide HR) hb); have HB := hide (bnext (unhide HB) hb); clear hb; (try clear c0 c1 c2 c3 c4); obtain ⟨c0, c1, c2, c3, c4⟩ := cells5 (unhide HR)) | (go_at_call 54; (with_reducible refine (in_isOne _ _ _ ?_).mono ?_); (exact at_new rfl); rintro e w1 ⟨rfl, hw⟩; rw [unhide HOn]; have hb := (show Below _ _ w1 by rw [hw]; exact (Below.refl _ _).alloc (Nat.le_refl _) _); clear hw; have HR := hide (row_below (unhide HR) hb); have HB := hide (bnext (unhide HB) hb); clear hb; (try clear c0 c1 c2 c3 c4); obtain ⟨c0, c1, c2, c3, c4⟩ := cells5 (unhide HR)) | (go_at_call 54; (with_reducible refine (in_isKids _ _ _ ?_).mono ?_); (exact at_new rfl); rintro e w1 ⟨rfl, hw⟩; rw [unhide HKi]; have hb := (show Below _ _ w1 by rw [hw]; exact (Below.refl _ _).alloc (Nat.le_refl _) _); clear hw; have HR := hide (row_below (unhide HR) hb); have HB := hide (bnext (unhide HB) hb); clear hb; (try clear c0 c1 c2 c3 c4); obtain ⟨c0, c1, c2, c3, c4⟩ := cells5 (unhide HR)))
  go_ret
  exact ⟨rfl, unhide HB⟩
set_option maxRecDepth 100000 in
set_option maxHeartbeats 400000 in
theorem rnode_lit_ok (T : PT) (w : World) (hc : T.k = 1) (hN : T.nm.size ≤ maxLen) (hL : T.len ≤ 4096) (ht : T.t.size ≤ 65536) (hk : T.len = 0) :
    Calls Tryz.prog 40 #[pv T] w fun e w' => e = .returned (.int .i64 (errN T)) ∧ Below w.heap.size w w' := by
  unfold pv
  have HE := hide (show errN T = 0 from by
    obtain ⟨e1, e2, e3⟩ := has_lit T hc
    rw [errN_kids T (by omega) (fun x => by omega) (fun x => by omega) (fun x => by omega), e2, e3]
    exact if_neg (by omega))
  rw [unhide HE]
  have HT := hide (show isText T.k = false by unfold isText; simp; omega)
  have HNu := hide (show isNum T.k = false by unfold isNum; simp; omega)
  have HNa := hide (show isName T.k = false by unfold isName; simp; omega)
  have HMa := hide (show isMany T.k = false by unfold isMany; simp; omega)
  have HOn := hide (show isOne T.k = false by unfold isOne; simp; omega)
  have HKi := hide (show isKids T.k = false by unfold isKids; simp; omega)
  have h1 : ¬ T.k < 1 := by omega
  have h2 : ¬ 24 < T.k := by omega
  have h3 : (T.k == 1) = true := by rw [beq_iff_eq]; omega
  have h4 : ¬ 65536 < (T.t.size : Int) := by omega
  have h6 : ((T.len : Int) != 0) = false := by rw [bne_eq_false_iff_eq]; omega
  clear hk

  have HNm := hide (And.intro hN trivial)
  clear hN hc HE
  have HR := hide (at_new (w := w) (o := .cells #[.int .i64 T.k, .string T.t, .int .i64 T.n, .string T.nm, .slice T.xa T.len T.cap] 30) rfl)
  have HB := hide ((Below.refl w.heap.size w).alloc (Nat.le_refl _) (.cells #[.int .i64 T.k, .string T.t, .int .i64 T.n, .string T.nm, .slice T.xa T.len T.cap] 30))
  have c0 := hide trivial
  have c1 := hide trivial
  have c2 := hide trivial
  have c3 := hide trivial
  have c4 := hide trivial
  go_enter Tryz.func40, Tryz.ntmps40
  go_wp2_with (first | (go_at_call 52; refine (texts_any _ _).mono ?_; rintro e w1 ⟨rfl, hb⟩; rw [unhide HT]; have HR := hide (row_below (unhide HR) hb); have HB := hide (bnext (unhide HB) hb); clear hb; (try clear c0 c1 c2 c3 c4); obtain ⟨c0, c1, c2, c3, c4⟩ := cells5 (unhide HR)) | (go_at_call 53; refine (numbers_any _ _).mono ?_; rintro e w1 ⟨rfl, hb⟩; rw [unhide HNu]; have HR := hide (row_below (unhide HR) hb); have HB := hide (bnext (unhide HB) hb); clear hb; (try clear c0 c1 c2 c3 c4); obtain ⟨c0, c1, c2, c3, c4⟩ := cells5 (unhide HR)) | (go_at_call 22; refine (refNamed_any _ _ (unhide HNm).1).mono ?_; rintro e w1 ⟨rfl, hb⟩; rw [(unhide HNm).2]; have HR := hide (row_below (unhide HR) hb); have HB := hide (bnext (unhide HB) hb); clear hb; (try clear c0 c1 c2 c3 c4); obtain ⟨c0, c1, c2, c3, c4⟩ := cells5 (unhide HR)) | (go_at_call 54; (with_reducible refine (in_isName _ _ _ ?_).mono ?_); (exact at_new rfl); rintro e w1 ⟨rfl, hw⟩; rw [unhide HNa]; have hb := (show Below _ _ w1 by rw [hw]; exact (Below.refl _ _).alloc (Nat.le_refl _) _); clear hw; have HR := hide (row_below (unhide HR) hb); have HB := hide (bnext (unhide HB) hb); clear hb; (try clear c0 c1 c2 c3 c4); obtain ⟨c0, c1, c2, c3, c4⟩ := cells5 (unhide HR)) | (go_at_call 54; (with_reducible refine (in_isMany _ _ _ ?_).mono ?_); (exact at_new rfl); rintro e w1 ⟨rfl, hw⟩; rw [unhide HMa]; have hb := (show Below _ _ w1 by rw [hw]; exact (Below.refl _ _).alloc (Nat.le_refl _) _); clear hw; have HR := hide (row_below (unhide HR) hb); have HB := hide (bnext (unhide HB) hb); clear hb; (try clear c0 c1 c2 c3 c4); obtain ⟨c0, c1, c2, c3, c4⟩ := cells5 (unhide HR)) | (go_at_call 54; (with_reducible refine (in_isOne _ _ _ ?_).mono ?_); (exact at_new rfl); rintro e w1 ⟨rfl, hw⟩; rw [unhide HOn]; have hb := (show Below _ _ w1 by rw [hw]; exact (Below.refl _ _).alloc (Nat.le_refl _) _); clear hw; have HR := hide (row_below (unhide HR) hb); have HB := hide (bnext (unhide HB) hb); clear hb; (try clear c0 c1 c2 c3 c4); obtain ⟨c0, c1, c2, c3, c4⟩ := cells5 (unhide HR)) | (go_at_call 54; (with_reducible refine (in_isKids _ _ _ ?_).mono ?_); (exact at_new rfl); rintro e w1 ⟨rfl, hw⟩; rw [unhide HKi]; have hb := (show Below _ _ w1 by rw [hw]; exact (Below.refl _ _).alloc (Nat.le_refl _) _); clear hw; have HR := hide (row_below (unhide HR) hb); have HB := hide (bnext (unhide HB) hb); clear hb; (try clear c0 c1 c2 c3 c4); obtain ⟨c0, c1, c2, c3, c4⟩ := cells5 (unhide HR)))
  go_ret
  exact ⟨rfl, unhide HB⟩
set_option maxRecDepth 100000 in
set_option maxHeartbeats 400000 in
theorem rnode_txt_much (T : PT) (w : World) (hc : 3 ≤ T.k ∧ T.k ≤ 7) (hN : T.nm.size ≤ maxLen) (hL : T.len ≤ 4096) (hl : 65536 < T.t.size) :
    Calls Tryz.prog 40 #[pv T] w fun e w' => e = .returned (.int .i64 (errN T)) ∧ Below w.heap.size w w' := by
  unfold pv
  have HE := hide (show errN T = 4 from errN_much T (by omega) hl)
  rw [unhide HE]
  have HT := hide (show isText T.k = true by unfold isText; simp; omega)
  have HNu := hide (show isNum T.k = false by unfold isNum; simp; omega)
  have HNa := hide (show isName T.k = false by unfold isName; simp; omega)
  have HMa := hide (show isMany T.k = false by unfold isMany; simp; omega)
  have HOn := hide (show isOne T.k = false by unfold isOne; simp; omega)
  have HKi := hide (show isKids T.k = false by unfold isKids; simp; omega)
  have h1 : ¬ T.k < 1 := by omega
  have h2 : ¬ 24 < T.k := by omega
  have h3 : (T.k == 1) = false := by rw [beq_eq_false_iff_ne]; omega
  have h4 : 65536 < (T.t.size : Int) := by omega

  have HNm := hide (And.intro hN trivial)
  clear hN hc HE
  have HR := hide (at_new (w := w) (o := .cells #[.int .i64 T.k, .string T.t, .int .i64 T.n, .string T.nm, .slice T.xa T.len T.cap] 30) rfl)
  have HB := hide ((Below.refl w.heap.size w).alloc (Nat.le_refl _) (.cells #[.int .i64 T.k, .string T.t, .int .i64 T.n, .string T.nm, .slice T.xa T.len T.cap] 30))
  have c0 := hide trivial
  have c1 := hide trivial
  have c2 := hide trivial
  have c3 := hide trivial
  have c4 := hide trivial
  go_enter Tryz.func40, Tryz.ntmps40
  go_wp2_with (first | (go_at_call 52; refine (texts_any _ _).mono ?_; rintro e w1 ⟨rfl, hb⟩; rw [unhide HT]; have HR := hide (row_below (unhide HR) hb); have HB := hide (bnext (unhide HB) hb); clear hb; (try clear c0 c1 c2 c3 c4); obtain ⟨c0, c1, c2, c3, c4⟩ := cells5 (unhide HR)) | (go_at_call 53; refine (numbers_any _ _).mono ?_; rintro e w1 ⟨rfl, hb⟩; rw [unhide HNu]; have HR := hide (row_below (unhide HR) hb); have HB := hide (bnext (unhide HB) hb); clear hb; (try clear c0 c1 c2 c3 c4); obtain ⟨c0, c1, c2, c3, c4⟩ := cells5 (unhide HR)) | (go_at_call 22; refine (refNamed_any _ _ (unhide HNm).1).mono ?_; rintro e w1 ⟨rfl, hb⟩; rw [(unhide HNm).2]; have HR := hide (row_below (unhide HR) hb); have HB := hide (bnext (unhide HB) hb); clear hb; (try clear c0 c1 c2 c3 c4); obtain ⟨c0, c1, c2, c3, c4⟩ := cells5 (unhide HR)) | (go_at_call 54; (with_reducible refine (in_isName _ _ _ ?_).mono ?_); (exact at_new rfl); rintro e w1 ⟨rfl, hw⟩; rw [unhide HNa]; have hb := (show Below _ _ w1 by rw [hw]; exact (Below.refl _ _).alloc (Nat.le_refl _) _); clear hw; have HR := hide (row_below (unhide HR) hb); have HB := hide (bnext (unhide HB) hb); clear hb; (try clear c0 c1 c2 c3 c4); obtain ⟨c0, c1, c2, c3, c4⟩ := cells5 (unhide HR)) | (go_at_call 54; (with_reducible refine (in_isMany _ _ _ ?_).mono ?_); (exact at_new rfl); rintro e w1 ⟨rfl, hw⟩; rw [unhide HMa]; have hb := (show Below _ _ w1 by rw [hw]; exact (Below.refl _ _).alloc (Nat.le_refl _) _); clear hw; have HR := hide (row_below (unhide HR) hb); have HB := hide (bnext (unhide HB) hb); clear hb; (try clear c0 c1 c2 c3 c4); obtain ⟨c0, c1, c2, c3, c4⟩ := cells5 (unhide HR)) | (go_at_call 54; (with_reducible refine (in_isOne _ _ _ ?_).mono ?_); (exact at_new rfl); rintro e w1 ⟨rfl, hw⟩; rw [unhide HOn]; have hb := (show Below _ _ w1 by rw [hw]; exact (Below.refl _ _).alloc (Nat.le_refl _) _); clear hw; have HR := hide (row_below (unhide HR) hb); have HB := hide (bnext (unhide HB) hb); clear hb; (try clear c0 c1 c2 c3 c4); obtain ⟨c0, c1, c2, c3, c4⟩ := cells5 (unhide HR)) | (go_at_call 54; (with_reducible refine (in_isKids _ _ _ ?_).mono ?_); (exact at_new rfl); rintro e w1 ⟨rfl, hw⟩; rw [unhide HKi]; have hb := (show Below _ _ w1 by rw [hw]; exact (Below.refl _ _).alloc (Nat.le_refl _) _); clear hw; have HR := hide (row_below (unhide HR) hb); have HB := hide (bnext (unhide HB) hb); clear hb; (try clear c0 c1 c2 c3 c4); obtain ⟨c0, c1, c2, c3, c4⟩ := cells5 (unhide HR)))
  go_ret
  exact ⟨rfl, unhide HB⟩
set_option maxRecDepth 100000 in
set_option maxHeartbeats 400000 in
theorem rnode_txt_empty (T : PT) (w : World) (hc : 3 ≤ T.k ∧ T.k ≤ 7) (hN : T.nm.size ≤ maxLen) (hL : T.len ≤ 4096) (hl : T.t.size = 0) :
    Calls Tryz.prog 40 #[pv T] w fun e w' => e = .returned (.int .i64 (errN T)) ∧ Below w.heap.size w w' := by
  unfold pv
  have HE := hide (show errN T = 8 from errN_empty T (by omega) hl)
  rw [unhide HE]
  have HT := hide (show isText T.k = true by unfold isText; simp; omega)
  have HNu := hide (show isNum T.k = false by unfold isNum; simp; omega)
  have HNa := hide (show isName T.k = false by unfold isName; simp; omega)
  have HMa := hide (show isMany T.k = false by unfold isMany; simp; omega)
  have HOn := hide (show isOne T.k = false by unfold isOne; simp; omega)
  have HKi := hide (show isKids T.k = false by unfold isKids; simp; omega)
  have h1 : ¬ T.k < 1 := by omega
  have h2 : ¬ 24 < T.k := by omega
  have h3 : (T.k == 1) = false := by rw [beq_eq_false_iff_ne]; omega
  have h4 : ¬ 65536 < (T.t.size : Int) := by omega
  have h5 : ((T.t.size : Int) == 0) = true := by rw [beq_iff_eq]; omega

  have HNm := hide (And.intro hN trivial)
  clear hN hc HE
  have HR := hide (at_new (w := w) (o := .cells #[.int .i64 T.k, .string T.t, .int .i64 T.n, .string T.nm, .slice T.xa T.len T.cap] 30) rfl)
  have HB := hide ((Below.refl w.heap.size w).alloc (Nat.le_refl _) (.cells #[.int .i64 T.k, .string T.t, .int .i64 T.n, .string T.nm, .slice T.xa T.len T.cap] 30))
  have c0 := hide trivial
  have c1 := hide trivial
  have c2 := hide trivial
  have c3 := hide trivial
  have c4 := hide trivial
  go_enter Tryz.func40, Tryz.ntmps40
  go_wp2_with (first | (go_at_call 52; refine (texts_any _ _).mono ?_; rintro e w1 ⟨rfl, hb⟩; rw [unhide HT]; have HR := hide (row_below (unhide HR) hb); have HB := hide (bnext (unhide HB) hb); clear hb; (try clear c0 c1 c2 c3 c4); obtain ⟨c0, c1, c2, c3, c4⟩ := cells5 (unhide HR)) | (go_at_call 53; refine (numbers_any _ _).mono ?_; rintro e w1 ⟨rfl, hb⟩; rw [unhide HNu]; have HR := hide (row_below (unhide HR) hb); have HB := hide (bnext (unhide HB) hb); clear hb; (try clear c0 c1 c2 c3 c4); obtain ⟨c0, c1, c2, c3, c4⟩ := cells5 (unhide HR)) | (go_at_call 22; refine (refNamed_any _ _ (unhide HNm).1).mono ?_; rintro e w1 ⟨rfl, hb⟩; rw [(unhide HNm).2]; have HR := hide (row_below (unhide HR) hb); have HB := hide (bnext (unhide HB) hb); clear hb; (try clear c0 c1 c2 c3 c4); obtain ⟨c0, c1, c2, c3, c4⟩ := cells5 (unhide HR)) | (go_at_call 54; (with_reducible refine (in_isName _ _ _ ?_).mono ?_); (exact at_new rfl); rintro e w1 ⟨rfl, hw⟩; rw [unhide HNa]; have hb := (show Below _ _ w1 by rw [hw]; exact (Below.refl _ _).alloc (Nat.le_refl _) _); clear hw; have HR := hide (row_below (unhide HR) hb); have HB := hide (bnext (unhide HB) hb); clear hb; (try clear c0 c1 c2 c3 c4); obtain ⟨c0, c1, c2, c3, c4⟩ := cells5 (unhide HR)) | (go_at_call 54; (with_reducible refine (in_isMany _ _ _ ?_).mono ?_); (exact at_new rfl); rintro e w1 ⟨rfl, hw⟩; rw [unhide HMa]; have hb := (show Below _ _ w1 by rw [hw]; exact (Below.refl _ _).alloc (Nat.le_refl _) _); clear hw; have HR := hide (row_below (unhide HR) hb); have HB := hide (bnext (unhide HB) hb); clear hb; (try clear c0 c1 c2 c3 c4); obtain ⟨c0, c1, c2, c3, c4⟩ := cells5 (unhide HR)) | (go_at_call 54; (with_reducible refine (in_isOne _ _ _ ?_).mono ?_); (exact at_new rfl); rintro e w1 ⟨rfl, hw⟩; rw [unhide HOn]; have hb := (show Below _ _ w1 by rw [hw]; exact (Below.refl _ _).alloc (Nat.le_refl _) _); clear hw; have HR := hide (row_below (unhide HR) hb); have HB := hide (bnext (unhide HB) hb); clear hb; (try clear c0 c1 c2 c3 c4); obtain ⟨c0, c1, c2, c3, c4⟩ := cells5 (unhide HR)) | (go_at_call 54; (with_reducible refine (in_isKids _ _ _ ?_).mono ?_); (exact at_new rfl); rintro e w1 ⟨rfl, hw⟩; rw [unhide HKi]; have hb := (show Below _ _ w1 by rw [hw]; exact (Below.refl _ _).alloc (Nat.le_refl _) _); clear hw; have HR := hide (row_below (unhide HR) hb); have HB := hide (bnext (unhide HB) hb); clear hb; (try clear c0 c1 c2 c3 c4); obtain ⟨c0, c1, c2, c3, c4⟩ := cells5 (unhide HR)))
  go_ret
  exact ⟨rfl, unhide HB⟩
set_option maxRecDepth 100000 in
set_option maxHeartbeats 400000 in
theorem rnode_txt_kids (T : PT) (w : World) (hc : 3 ≤ T.k ∧ T.k ≤ 7) (hN : T.nm.size ≤ maxLen) (hL : T.len ≤ 4096) (ht : T.t.size ≤ 65536) (h0 : T.t.size ≠ 0) (hk : T.len ≠ 0) :
    Calls Tryz.prog 40 #[pv T] w fun e w' => e = .returned (.int .i64 (errN T)) ∧ Below w.heap.size w w' := by
  unfold pv
  have HE := hide (show errN T = 5 from by
    obtain ⟨e1, e2, e3⟩ := has_txt T hc
    rw [errN_kids T (by omega) (fun x => by omega) (fun x => by omega) (fun x => by omega), e2, e3]
    exact if_pos (by omega))
  rw [unhide HE]
  have HT := hide (show isText T.k = true by unfold isText; simp; omega)
  have HNu := hide (show isNum T.k = false by unfold isNum; simp; omega)
  have HNa := hide (show isName T.k = false by unfold isName; simp; omega)
  have HMa := hide (show isMany T.k = false by unfold isMany; simp; omega)
  have HOn := hide (show isOne T.k = false by unfold isOne; simp; omega)
  have HKi := hide (show isKids T.k = false by unfold isKids; simp; omega)
  have h1 : ¬ T.k < 1 := by omega
  have h2 : ¬ 24 < T.k := by omega
  have h3 : (T.k == 1) = false := by rw [beq_eq_false_iff_ne]; omega
  have h4 : ¬ 65536 < (T.t.size : Int) := by omega
  have h5 : ((T.t.size : Int) == 0) = false := by rw [beq_eq_false_iff_ne]; omega
  have h6 : ((T.len : Int) != 0) = true := by rw [bne_iff_ne]; omega
  clear hk

  have HNm := hide (And.intro hN trivial)
  clear hN hc HE
  have HR := hide (at_new (w := w) (o := .cells #[.int .i64 T.k, .string T.t, .int .i64 T.n, .string T.nm, .slice T.xa T.len T.cap] 30) rfl)
  have HB := hide ((Below.refl w.heap.size w).alloc (Nat.le_refl _) (.cells #[.int .i64 T.k, .string T.t, .int .i64 T.n, .string T.nm, .slice T.xa T.len T.cap] 30))
  have c0 := hide trivial
  have c1 := hide trivial
  have c2 := hide trivial
  have c3 := hide trivial
  have c4 := hide trivial
  go_enter Tryz.func40, Tryz.ntmps40
  go_wp2_with (first | (go_at_call 52; refine (texts_any _ _).mono ?_; rintro e w1 ⟨rfl, hb⟩; rw [unhide HT]; have HR := hide (row_below (unhide HR) hb); have HB := hide (bnext (unhide HB) hb); clear hb; (try clear c0 c1 c2 c3 c4); obtain ⟨c0, c1, c2, c3, c4⟩ := cells5 (unhide HR)) | (go_at_call 53; refine (numbers_any _ _).mono ?_; rintro e w1 ⟨rfl, hb⟩; rw [unhide HNu]; have HR := hide (row_below (unhide HR) hb); have HB := hide (bnext (unhide HB) hb); clear hb; (try clear c0 c1 c2 c3 c4); obtain ⟨c0, c1, c2, c3, c4⟩ := cells5 (unhide HR)) | (go_at_call 22; refine (refNamed_any _ _ (unhide HNm).1).mono ?_; rintro e w1 ⟨rfl, hb⟩; rw [(unhide HNm).2]; have HR := hide (row_below (unhide HR) hb); have HB := hide (bnext (unhide HB) hb); clear hb; (try clear c0 c1 c2 c3 c4); obtain ⟨c0, c1, c2, c3, c4⟩ := cells5 (unhide HR)) | (go_at_call 54; (with_reducible refine (in_isName _ _ _ ?_).mono ?_); (exact at_new rfl); rintro e w1 ⟨rfl, hw⟩; rw [unhide HNa]; have hb := (show Below _ _ w1 by rw [hw]; exact (Below.refl _ _).alloc (Nat.le_refl _) _); clear hw; have HR := hide (row_below (unhide HR) hb); have HB := hide (bnext (unhide HB) hb); clear hb; (try clear c0 c1 c2 c3 c4); obtain ⟨c0, c1, c2, c3, c4⟩ := cells5 (unhide HR)) | (go_at_call 54; (with_reducible refine (in_isMany _ _ _ ?_).mono ?_); (exact at_new rfl); rintro e w1 ⟨rfl, hw⟩; rw [unhide HMa]; have hb := (show Below _ _ w1 by rw [hw]; exact (Below.refl _ _).alloc (Nat.le_refl _) _); clear hw; have HR := hide (row_below (unhide HR) hb); have HB := hide (bnext (unhide HB) hb); clear hb; (try clear c0 c1 c2 c3 c4); obtain ⟨c0, c1, c2, c3, c4⟩ := cells5 (unhide HR)) | (go_at_call 54; (with_reducible refine (in_isOne _ _ _ ?_).mono ?_); (exact at_new rfl); rintro e w1 ⟨rfl, hw⟩; rw [unhide HOn]; have hb := (show Below _ _ w1 by rw [hw]; exact (Below.refl _ _).alloc (Nat.le_refl _) _); clear hw; have HR := hide (row_below (unhide HR) hb); have HB := hide (bnext (unhide HB) hb); clear hb; (try clear c0 c1 c2 c3 c4); obtain ⟨c0, c1, c2, c3, c4⟩ := cells5 (unhide HR)) | (go_at_call 54; (with_reducible refine (in_isKids _ _ _ ?_).mono ?_); (exact at_new rfl); rintro e w1 ⟨rfl, hw⟩; rw [unhide HKi]; have hb := (show Below _ _ w1 by rw [hw]; exact (Below.refl _ _).alloc (Nat.le_refl _) _); clear hw; have HR := hide (row_below (unhide HR) hb); have HB := hide (bnext (unhide HB) hb); clear hb; (try clear c0 c1 c2 c3 c4); obtain ⟨c0, c1, c2, c3, c4⟩ := cells5 (unhide HR)))
  go_ret
  exact ⟨rfl, unhide HB⟩
set_option maxRecDepth 100000 in
set_option maxHeartbeats 400000 in
theorem rnode_txt_ok (T : PT) (w : World) (hc : 3 ≤ T.k ∧ T.k ≤ 7) (hN : T.nm.size ≤ maxLen) (hL : T.len ≤ 4096) (ht : T.t.size ≤ 65536) (h0 : T.t.size ≠ 0) (hk : T.len = 0) :
    Calls Tryz.prog 40 #[pv T] w fun e w' => e = .returned (.int .i64 (errN T)) ∧ Below w.heap.size w w' := by
  unfold pv
  have HE := hide (show errN T = 0 from by
    obtain ⟨e1, e2, e3⟩ := has_txt T hc
    rw [errN_kids T (by omega) (fun x => by omega) (fun x => by omega) (fun x => by omega), e2, e3]
    exact if_neg (by omega))
  rw [unhide HE]
  have HT := hide (show isText T.k = true by unfold isText; simp; omega)
  have HNu := hide (show isNum T.k = false by unfold isNum; simp; omega)
  have HNa := hide (show isName T.k = false by unfold isName; simp; omega)
  have HMa := hide (show isMany T.k = false by unfold isMany; simp; omega)
  have HOn := hide (show isOne T.k = false by unfold isOne; simp; omega)
  have HKi := hide (show isKids T.k = false by unfold isKids; simp; omega)
  have h1 : ¬ T.k < 1 := by omega
  have h2 : ¬ 24 < T.k := by omega
  have h3 : (T.k == 1) = false := by rw [beq_eq_false_iff_ne]; omega
  have h4 : ¬ 65536 < (T.t.size : Int) := by omega
  have h5 : ((T.t.size : Int) == 0) = false := by rw [beq_eq_false_iff_ne]; omega
  have h6 : ((T.len : Int) != 0) = false := by rw [bne_eq_false_iff_eq]; omega
  clear hk

  have HNm := hide (And.intro hN trivial)
  clear hN hc HE
  have HR := hide (at_new (w := w) (o := .cells #[.int .i64 T.k, .string T.t, .int .i64 T.n, .string T.nm, .slice T.xa T.len T.cap] 30) rfl)
  have HB := hide ((Below.refl w.heap.size w).alloc (Nat.le_refl _) (.cells #[.int .i64 T.k, .string T.t, .int .i64 T.n, .string T.nm, .slice T.xa T.len T.cap] 30))
  have c0 := hide trivial
  have c1 := hide trivial
  have c2 := hide trivial
  have c3 := hide trivial
  have c4 := hide trivial
  go_enter Tryz.func40, Tryz.ntmps40
  go_wp2_with (first | (go_at_call 52; refine (texts_any _ _).mono ?_; rintro e w1 ⟨rfl, hb⟩; rw [unhide HT]; have HR := hide (row_below (unhide HR) hb); have HB := hide (bnext (unhide HB) hb); clear hb; (try clear c0 c1 c2 c3 c4); obtain ⟨c0, c1, c2, c3, c4⟩ := cells5 (unhide HR)) | (go_at_call 53; refine (numbers_any _ _).mono ?_; rintro e w1 ⟨rfl, hb⟩; rw [unhide HNu]; have HR := hide (row_below (unhide HR) hb); have HB := hide (bnext (unhide HB) hb); clear hb; (try clear c0 c1 c2 c3 c4); obtain ⟨c0, c1, c2, c3, c4⟩ := cells5 (unhide HR)) | (go_at_call 22; refine (refNamed_any _ _ (unhide HNm).1).mono ?_; rintro e w1 ⟨rfl, hb⟩; rw [(unhide HNm).2]; have HR := hide (row_below (unhide HR) hb); have HB := hide (bnext (unhide HB) hb); clear hb; (try clear c0 c1 c2 c3 c4); obtain ⟨c0, c1, c2, c3, c4⟩ := cells5 (unhide HR)) | (go_at_call 54; (with_reducible refine (in_isName _ _ _ ?_).mono ?_); (exact at_new rfl); rintro e w1 ⟨rfl, hw⟩; rw [unhide HNa]; have hb := (show Below _ _ w1 by rw [hw]; exact (Below.refl _ _).alloc (Nat.le_refl _) _); clear hw; have HR := hide (row_below (unhide HR) hb); have HB := hide (bnext (unhide HB) hb); clear hb; (try clear c0 c1 c2 c3 c4); obtain ⟨c0, c1, c2, c3, c4⟩ := cells5 (unhide HR)) | (go_at_call 54; (with_reducible refine (in_isMany _ _ _ ?_).mono ?_); (exact at_new rfl); rintro e w1 ⟨rfl, hw⟩; rw [unhide HMa]; have hb := (show Below _ _ w1 by rw [hw]; exact (Below.refl _ _).alloc (Nat.le_refl _) _); clear hw; have HR := hide (row_below (unhide HR) hb); have HB := hide (bnext (unhide HB) hb); clear hb; (try clear c0 c1 c2 c3 c4); obtain ⟨c0, c1, c2, c3, c4⟩ := cells5 (unhide HR)) | (go_at_call 54; (with_reducible refine (in_isOne _ _ _ ?_).mono ?_); (exact at_new rfl); rintro e w1 ⟨rfl, hw⟩; rw [unhide HOn]; have hb := (show Below _ _ w1 by rw [hw]; exact (Below.refl _ _).alloc (Nat.le_refl _) _); clear hw; have HR := hide (row_below (unhide HR) hb); have HB := hide (bnext (unhide HB) hb); clear hb; (try clear c0 c1 c2 c3 c4); obtain ⟨c0, c1, c2, c3, c4⟩ := cells5 (unhide HR)) | (go_at_call 54; (with_reducible refine (in_isKids _ _ _ ?_).mono ?_); (exact at_new rfl); rintro e w1 ⟨rfl, hw⟩; rw [unhide HKi]; have hb := (show Below _ _ w1 by rw [hw]; exact (Below.refl _ _).alloc (Nat.le_refl _) _); clear hw; have HR := hide (row_below (unhide HR) hb); have HB := hide (bnext (unhide HB) hb); clear hb; (try clear c0 c1 c2 c3 c4); obtain ⟨c0, c1, c2, c3, c4⟩ := cells5 (unhide HR)))
  go_ret
  exact ⟨rfl, unhide HB⟩
set_option maxRecDepth 100000 in
set_option maxHeartbeats 400000 in
theorem rnode_num_low (T : PT) (w : World) (hc : T.k = 2 ∨ (8 ≤ T.k ∧ T.k ≤ 11)) (hN : T.nm.size ≤ maxLen) (hL : T.len ≤ 4096) (hl : T.n < 0) :
    Calls Tryz.prog 40 #[pv T] w fun e w' => e = .returned (.int .i64 (errN T)) ∧ Below w.heap.size w w' := by
  unfold pv
  have HE := hide (show errN T = 3 from errN_range T (by omega) (.inl hl))
  rw [unhide HE]
  have HT := hide (show isText T.k = false by unfold isText; simp; omega)
  have HNu := hide (show isNum T.k = true by unfold isNum; simp; omega)
  have HNa := hide (show isName T.k = false by unfold isName; simp; omega)
  have HMa := hide (show isMany T.k = false by unfold isMany; simp; omega)
  have HOn := hide (show isOne T.k = false by unfold isOne; simp; omega)
  have HKi := hide (show isKids T.k = false by unfold isKids; simp; omega)
  have h1 : ¬ T.k < 1 := by omega
  have h2 : ¬ 24 < T.k := by omega
  have h3 : (T.k == 1) = false := by rw [beq_eq_false_iff_ne]; omega
  have h4 : T.n < 0 := hl

  have HNm := hide (And.intro hN trivial)
  clear hN hc HE
  have HR := hide (at_new (w := w) (o := .cells #[.int .i64 T.k, .string T.t, .int .i64 T.n, .string T.nm, .slice T.xa T.len T.cap] 30) rfl)
  have HB := hide ((Below.refl w.heap.size w).alloc (Nat.le_refl _) (.cells #[.int .i64 T.k, .string T.t, .int .i64 T.n, .string T.nm, .slice T.xa T.len T.cap] 30))
  have c0 := hide trivial
  have c1 := hide trivial
  have c2 := hide trivial
  have c3 := hide trivial
  have c4 := hide trivial
  go_enter Tryz.func40, Tryz.ntmps40
  go_wp2_with (first | (go_at_call 52; refine (texts_any _ _).mono ?_; rintro e w1 ⟨rfl, hb⟩; rw [unhide HT]; have HR := hide (row_below (unhide HR) hb); have HB := hide (bnext (unhide HB) hb); clear hb; (try clear c0 c1 c2 c3 c4); obtain ⟨c0, c1, c2, c3, c4⟩ := cells5 (unhide HR)) | (go_at_call 53; refine (numbers_any _ _).mono ?_; rintro e w1 ⟨rfl, hb⟩; rw [unhide HNu]; have HR := hide (row_below (unhide HR) hb); have HB := hide (bnext (unhide HB) hb); clear hb; (try clear c0 c1 c2 c3 c4); obtain ⟨c0, c1, c2, c3, c4⟩ := cells5 (unhide HR)) | (go_at_call 22; refine (refNamed_any _ _ (unhide HNm).1).mono ?_; rintro e w1 ⟨rfl, hb⟩; rw [(unhide HNm).2]; have HR := hide (row_below (unhide HR) hb); have HB := hide (bnext (unhide HB) hb); clear hb; (try clear c0 c1 c2 c3 c4); obtain ⟨c0, c1, c2, c3, c4⟩ := cells5 (unhide HR)) | (go_at_call 54; (with_reducible refine (in_isName _ _ _ ?_).mono ?_); (exact at_new rfl); rintro e w1 ⟨rfl, hw⟩; rw [unhide HNa]; have hb := (show Below _ _ w1 by rw [hw]; exact (Below.refl _ _).alloc (Nat.le_refl _) _); clear hw; have HR := hide (row_below (unhide HR) hb); have HB := hide (bnext (unhide HB) hb); clear hb; (try clear c0 c1 c2 c3 c4); obtain ⟨c0, c1, c2, c3, c4⟩ := cells5 (unhide HR)) | (go_at_call 54; (with_reducible refine (in_isMany _ _ _ ?_).mono ?_); (exact at_new rfl); rintro e w1 ⟨rfl, hw⟩; rw [unhide HMa]; have hb := (show Below _ _ w1 by rw [hw]; exact (Below.refl _ _).alloc (Nat.le_refl _) _); clear hw; have HR := hide (row_below (unhide HR) hb); have HB := hide (bnext (unhide HB) hb); clear hb; (try clear c0 c1 c2 c3 c4); obtain ⟨c0, c1, c2, c3, c4⟩ := cells5 (unhide HR)) | (go_at_call 54; (with_reducible refine (in_isOne _ _ _ ?_).mono ?_); (exact at_new rfl); rintro e w1 ⟨rfl, hw⟩; rw [unhide HOn]; have hb := (show Below _ _ w1 by rw [hw]; exact (Below.refl _ _).alloc (Nat.le_refl _) _); clear hw; have HR := hide (row_below (unhide HR) hb); have HB := hide (bnext (unhide HB) hb); clear hb; (try clear c0 c1 c2 c3 c4); obtain ⟨c0, c1, c2, c3, c4⟩ := cells5 (unhide HR)) | (go_at_call 54; (with_reducible refine (in_isKids _ _ _ ?_).mono ?_); (exact at_new rfl); rintro e w1 ⟨rfl, hw⟩; rw [unhide HKi]; have hb := (show Below _ _ w1 by rw [hw]; exact (Below.refl _ _).alloc (Nat.le_refl _) _); clear hw; have HR := hide (row_below (unhide HR) hb); have HB := hide (bnext (unhide HB) hb); clear hb; (try clear c0 c1 c2 c3 c4); obtain ⟨c0, c1, c2, c3, c4⟩ := cells5 (unhide HR)))
  go_ret
  exact ⟨rfl, unhide HB⟩
set_option maxRecDepth 100000 in
set_option maxHeartbeats 400000 in
theorem rnode_num_high (T : PT) (w : World) (hc : T.k = 2 ∨ (8 ≤ T.k ∧ T.k ≤ 11)) (hN : T.nm.size ≤ maxLen) (hL : T.len ≤ 4096) (hl : 65536 < T.n) :
    Calls Tryz.prog 40 #[pv T] w fun e w' => e = .returned (.int .i64 (errN T)) ∧ Below w.heap.size w w' := by
  unfold pv
  have HE := hide (show errN T = 3 from errN_range T (by omega) (.inr hl))
  rw [unhide HE]
  have HT := hide (show isText T.k = false by unfold isText; simp; omega)
  have HNu := hide (show isNum T.k = true by unfold isNum; simp; omega)
  have HNa := hide (show isName T.k = false by unfold isName; simp; omega)
  have HMa := hide (show isMany T.k = false by unfold isMany; simp; omega)
  have HOn := hide (show isOne T.k = false by unfold isOne; simp; omega)
  have HKi := hide (show isKids T.k = false by unfold isKids; simp; omega)
  have h1 : ¬ T.k < 1 := by omega
  have h2 : ¬ 24 < T.k := by omega
  have h3 : (T.k == 1) = false := by rw [beq_eq_false_iff_ne]; omega
  have h4 : ¬ T.n < 0 := by omega

  have HNm := hide (And.intro hN trivial)
  clear hN hc HE
  have HR := hide (at_new (w := w) (o := .cells #[.int .i64 T.k, .string T.t, .int .i64 T.n, .string T.nm, .slice T.xa T.len T.cap] 30) rfl)
  have HB := hide ((Below.refl w.heap.size w).alloc (Nat.le_refl _) (.cells #[.int .i64 T.k, .string T.t, .int .i64 T.n, .string T.nm, .slice T.xa T.len T.cap] 30))
  have c0 := hide trivial
  have c1 := hide trivial
  have c2 := hide trivial
  have c3 := hide trivial
  have c4 := hide trivial
  go_enter Tryz.func40, Tryz.ntmps40
  go_wp2_with (first | (go_at_call 52; refine (texts_any _ _).mono ?_; rintro e w1 ⟨rfl, hb⟩; rw [unhide HT]; have HR := hide (row_below (unhide HR) hb); have HB := hide (bnext (unhide HB) hb); clear hb; (try clear c0 c1 c2 c3 c4); obtain ⟨c0, c1, c2, c3, c4⟩ := cells5 (unhide HR)) | (go_at_call 53; refine (numbers_any _ _).mono ?_; rintro e w1 ⟨rfl, hb⟩; rw [unhide HNu]; have HR := hide (row_below (unhide HR) hb); have HB := hide (bnext (unhide HB) hb); clear hb; (try clear c0 c1 c2 c3 c4); obtain ⟨c0, c1, c2, c3, c4⟩ := cells5 (unhide HR)) | (go_at_call 22; refine (refNamed_any _ _ (unhide HNm).1).mono ?_; rintro e w1 ⟨rfl, hb⟩; rw [(unhide HNm).2]; have HR := hide (row_below (unhide HR) hb); have HB := hide (bnext (unhide HB) hb); clear hb; (try clear c0 c1 c2 c3 c4); obtain ⟨c0, c1, c2, c3, c4⟩ := cells5 (unhide HR)) | (go_at_call 54; (with_reducible refine (in_isName _ _ _ ?_).mono ?_); (exact at_new rfl); rintro e w1 ⟨rfl, hw⟩; rw [unhide HNa]; have hb := (show Below _ _ w1 by rw [hw]; exact (Below.refl _ _).alloc (Nat.le_refl _) _); clear hw; have HR := hide (row_below (unhide HR) hb); have HB := hide (bnext (unhide HB) hb); clear hb; (try clear c0 c1 c2 c3 c4); obtain ⟨c0, c1, c2, c3, c4⟩ := cells5 (unhide HR)) | (go_at_call 54; (with_reducible refine (in_isMany _ _ _ ?_).mono ?_); (exact at_new rfl); rintro e w1 ⟨rfl, hw⟩; rw [unhide HMa]; have hb := (show Below _ _ w1 by rw [hw]; exact (Below.refl _ _).alloc (Nat.le_refl _) _); clear hw; have HR := hide (row_below (unhide HR) hb); have HB := hide (bnext (unhide HB) hb); clear hb; (try clear c0 c1 c2 c3 c4); obtain ⟨c0, c1, c2, c3, c4⟩ := cells5 (unhide HR)) | (go_at_call 54; (with_reducible refine (in_isOne _ _ _ ?_).mono ?_); (exact at_new rfl); rintro e w1 ⟨rfl, hw⟩; rw [unhide HOn]; have hb := (show Below _ _ w1 by rw [hw]; exact (Below.refl _ _).alloc (Nat.le_refl _) _); clear hw; have HR := hide (row_below (unhide HR) hb); have HB := hide (bnext (unhide HB) hb); clear hb; (try clear c0 c1 c2 c3 c4); obtain ⟨c0, c1, c2, c3, c4⟩ := cells5 (unhide HR)) | (go_at_call 54; (with_reducible refine (in_isKids _ _ _ ?_).mono ?_); (exact at_new rfl); rintro e w1 ⟨rfl, hw⟩; rw [unhide HKi]; have hb := (show Below _ _ w1 by rw [hw]; exact (Below.refl _ _).alloc (Nat.le_refl _) _); clear hw; have HR := hide (row_below (unhide HR) hb); have HB := hide (bnext (unhide HB) hb); clear hb; (try clear c0 c1 c2 c3 c4); obtain ⟨c0, c1, c2, c3, c4⟩ := cells5 (unhide HR)))
  go_ret
  exact ⟨rfl, unhide HB⟩
set_option maxRecDepth 100000 in
set_option maxHeartbeats 400000 in
theorem rnode_num_kids (T : PT) (w : World) (hc : T.k = 2 ∨ (8 ≤ T.k ∧ T.k ≤ 11)) (hN : T.nm.size ≤ maxLen) (hL : T.len ≤ 4096) (ht : 0 ≤ T.n) (h0 : T.n ≤ 65536) (hk : T.len ≠ 0) :
    Calls Tryz.prog 40 #[pv T] w fun e w' => e = .returned (.int .i64 (errN T)) ∧ Below w.heap.size w w' := by
  unfold pv
  have HE := hide (show errN T = 5 from by
    obtain ⟨e1, e2, e3⟩ := has_num T hc
    rw [errN_kids T (by omega) (fun x => by omega) (fun x => by omega) (fun x => by omega), e2, e3]
    exact if_pos (by omega))
  rw [unhide HE]
  have HT := hide (show isText T.k = false by unfold isText; simp; omega)
  have HNu := hide (show isNum T.k = true by unfold isNum; simp; omega)
  have HNa := hide (show isName T.k = false by unfold isName; simp; omega)
  have HMa := hide (show isMany T.k = false by unfold isMany; simp; omega)
  have HOn := hide (show isOne T.k = false by unfold isOne; simp; omega)
  have HKi := hide (show isKids T.k = false by unfold isKids; simp; omega)
  have h1 : ¬ T.k < 1 := by omega
  have h2 : ¬ 24 < T.k := by omega
  have h3 : (T.k == 1) = false := by rw [beq_eq_false_iff_ne]; omega
  have h4 : ¬ T.n < 0 := by omega
  have h5 : ¬ 65536 < T.n := by omega
  have h6 : ((T.len : Int) != 0) = true := by rw [bne_iff_ne]; omega
  clear hk

  have HNm := hide (And.intro hN trivial)
  clear hN hc HE
  have HR := hide (at_new (w := w) (o := .cells #[.int .i64 T.k, .string T.t, .int .i64 T.n, .string T.nm, .slice T.xa T.len T.cap] 30) rfl)
  have HB := hide ((Below.refl w.heap.size w).alloc (Nat.le_refl _) (.cells #[.int .i64 T.k, .string T.t, .int .i64 T.n, .string T.nm, .slice T.xa T.len T.cap] 30))
  have c0 := hide trivial
  have c1 := hide trivial
  have c2 := hide trivial
  have c3 := hide trivial
  have c4 := hide trivial
  go_enter Tryz.func40, Tryz.ntmps40
  go_wp2_with (first | (go_at_call 52; refine (texts_any _ _).mono ?_; rintro e w1 ⟨rfl, hb⟩; rw [unhide HT]; have HR := hide (row_below (unhide HR) hb); have HB := hide (bnext (unhide HB) hb); clear hb; (try clear c0 c1 c2 c3 c4); obtain ⟨c0, c1, c2, c3, c4⟩ := cells5 (unhide HR)) | (go_at_call 53; refine (numbers_any _ _).mono ?_; rintro e w1 ⟨rfl, hb⟩; rw [unhide HNu]; have HR := hide (row_below (unhide HR) hb); have HB := hide (bnext (unhide HB) hb); clear hb; (try clear c0 c1 c2 c3 c4); obtain ⟨c0, c1, c2, c3, c4⟩ := cells5 (unhide HR)) | (go_at_call 22; refine (refNamed_any _ _ (unhide HNm).1).mono ?_; rintro e w1 ⟨rfl, hb⟩; rw [(unhide HNm).2]; have HR := hide (row_below (unhide HR) hb); have HB := hide (bnext (unhide HB) hb); clear hb; (try clear c0 c1 c2 c3 c4); obtain ⟨c0, c1, c2, c3, c4⟩ := cells5 (unhide HR)) | (go_at_call 54; (with_reducible refine (in_isName _ _ _ ?_).mono ?_); (exact at_new rfl); rintro e w1 ⟨rfl, hw⟩; rw [unhide HNa]; have hb := (show Below _ _ w1 by rw [hw]; exact (Below.refl _ _).alloc (Nat.le_refl _) _); clear hw; have HR := hide (row_below (unhide HR) hb); have HB := hide (bnext (unhide HB) hb); clear hb; (try clear c0 c1 c2 c3 c4); obtain ⟨c0, c1, c2, c3, c4⟩ := cells5 (unhide HR)) | (go_at_call 54; (with_reducible refine (in_isMany _ _ _ ?_).mono ?_); (exact at_new rfl); rintro e w1 ⟨rfl, hw⟩; rw [unhide HMa]; have hb := (show Below _ _ w1 by rw [hw]; exact (Below.refl _ _).alloc (Nat.le_refl _) _); clear hw; have HR := hide (row_below (unhide HR) hb); have HB := hide (bnext (unhide HB) hb); clear hb; (try clear c0 c1 c2 c3 c4); obtain ⟨c0, c1, c2, c3, c4⟩ := cells5 (unhide HR)) | (go_at_call 54; (with_reducible refine (in_isOne _ _ _ ?_).mono ?_); (exact at_new rfl); rintro e w1 ⟨rfl, hw⟩; rw [unhide HOn]; have hb := (show Below _ _ w1 by rw [hw]; exact (Below.refl _ _).alloc (Nat.le_refl _) _); clear hw; have HR := hide (row_below (unhide HR) hb); have HB := hide (bnext (unhide HB) hb); clear hb; (try clear c0 c1 c2 c3 c4); obtain ⟨c0, c1, c2, c3, c4⟩ := cells5 (unhide HR)) | (go_at_call 54; (with_reducible refine (in_isKids _ _ _ ?_).mono ?_); (exact at_new rfl); rintro e w1 ⟨rfl, hw⟩; rw [unhide HKi]; have hb := (show Below _ _ w1 by rw [hw]; exact (Below.refl _ _).alloc (Nat.le_refl _) _); clear hw; have HR := hide (row_below (unhide HR) hb); have HB := hide (bnext (unhide HB) hb); clear hb; (try clear c0 c1 c2 c3 c4); obtain ⟨c0, c1, c2, c3, c4⟩ := cells5 (unhide HR)))
  go_ret
  exact ⟨rfl, unhide HB⟩
set_option maxRecDepth 100000 in
set_option maxHeartbeats 400000 in
theorem rnode_num_ok (T : PT) (w : World) (hc : T.k = 2 ∨ (8 ≤ T.k ∧ T.k ≤ 11)) (hN : T.nm.size ≤ maxLen) (hL : T.len ≤ 4096) (ht : 0 ≤ T.n) (h0 : T.n ≤ 65536) (hk : T.len = 0) :
    Calls Tryz.prog 40 #[pv T] w fun e w' => e = .returned (.int .i64 (errN T)) ∧ Below w.heap.size w w' := by
  unfold pv
  have HE := hide (show errN T = 0 from by
    obtain ⟨e1, e2, e3⟩ := has_num T hc
    rw [errN_kids T (by omega) (fun x => by omega) (fun x => by omega) (fun x => by omega), e2, e3]
    exact if_neg (by omega))
  rw [unhide HE]
  have HT := hide (show isText T.k = false by unfold isText; simp; omega)
  have HNu := hide (show isNum T.k = true by unfold isNum; simp; omega)
  have HNa := hide (show isName T.k = false by unfold isName; simp; omega)
  have HMa := hide (show isMany T.k = false by unfold isMany; simp; omega)
  have HOn := hide (show isOne T.k = false by unfold isOne; simp; omega)
  have HKi := hide (show isKids T.k = false by unfold isKids; simp; omega)
  have h1 : ¬ T.k < 1 := by omega
  have h2 : ¬ 24 < T.k := by omega
  have h3 : (T.k == 1) = false := by rw [beq_eq_false_iff_ne]; omega
  have h4 : ¬ T.n < 0 := by omega
  have h5 : ¬ 65536 < T.n := by omega
  have h6 : ((T.len : Int) != 0) = false := by rw [bne_eq_false_iff_eq]; omega
  clear hk

  have HNm := hide (And.intro hN trivial)
  clear hN hc HE
  have HR := hide (at_new (w := w) (o := .cells #[.int .i64 T.k, .string T.t, .int .i64 T.n, .string T.nm, .slice T.xa T.len T.cap] 30) rfl)
  have HB := hide ((Below.refl w.heap.size w).alloc (Nat.le_refl _) (.cells #[.int .i64 T.k, .string T.t, .int .i64 T.n, .string T.nm, .slice T.xa T.len T.cap] 30))
  have c0 := hide trivial
  have c1 := hide trivial
  have c2 := hide trivial
  have c3 := hide trivial
  have c4 := hide trivial
  go_enter Tryz.func40, Tryz.ntmps40
  go_wp2_with (first | (go_at_call 52; refine (texts_any _ _).mono ?_; rintro e w1 ⟨rfl, hb⟩; rw [unhide HT]; have HR := hide (row_below (unhide HR) hb); have HB := hide (bnext (unhide HB) hb); clear hb; (try clear c0 c1 c2 c3 c4); obtain ⟨c0, c1, c2, c3, c4⟩ := cells5 (unhide HR)) | (go_at_call 53; refine (numbers_any _ _).mono ?_; rintro e w1 ⟨rfl, hb⟩; rw [unhide HNu]; have HR := hide (row_below (unhide HR) hb); have HB := hide (bnext (unhide HB) hb); clear hb; (try clear c0 c1 c2 c3 c4); obtain ⟨c0, c1, c2, c3, c4⟩ := cells5 (unhide HR)) | (go_at_call 22; refine (refNamed_any _ _ (unhide HNm).1).mono ?_; rintro e w1 ⟨rfl, hb⟩; rw [(unhide HNm).2]; have HR := hide (row_below (unhide HR) hb); have HB := hide (bnext (unhide HB) hb); clear hb; (try clear c0 c1 c2 c3 c4); obtain ⟨c0, c1, c2, c3, c4⟩ := cells5 (unhide HR)) | (go_at_call 54; (with_reducible refine (in_isName _ _ _ ?_).mono ?_); (exact at_new rfl); rintro e w1 ⟨rfl, hw⟩; rw [unhide HNa]; have hb := (show Below _ _ w1 by rw [hw]; exact (Below.refl _ _).alloc (Nat.le_refl _) _); clear hw; have HR := hide (row_below (unhide HR) hb); have HB := hide (bnext (unhide HB) hb); clear hb; (try clear c0 c1 c2 c3 c4); obtain ⟨c0, c1, c2, c3, c4⟩ := cells5 (unhide HR)) | (go_at_call 54; (with_reducible refine (in_isMany _ _ _ ?_).mono ?_); (exact at_new rfl); rintro e w1 ⟨rfl, hw⟩; rw [unhide HMa]; have hb := (show Below _ _ w1 by rw [hw]; exact (Below.refl _ _).alloc (Nat.le_refl _) _); clear hw; have HR := hide (row_below (unhide HR) hb); have HB := hide (bnext (unhide HB) hb); clear hb; (try clear c0 c1 c2 c3 c4); obtain ⟨c0, c1, c2, c3, c4⟩ := cells5 (unhide HR)) | (go_at_call 54; (with_reducible refine (in_isOne _ _ _ ?_).mono ?_); (exact at_new rfl); rintro e w1 ⟨rfl, hw⟩; rw [unhide HOn]; have hb := (show Below _ _ w1 by rw [hw]; exact (Below.refl _ _).alloc (Nat.le_refl _) _); clear hw; have HR := hide (row_below (unhide HR) hb); have HB := hide (bnext (unhide HB) hb); clear hb; (try clear c0 c1 c2 c3 c4); obtain ⟨c0, c1, c2, c3, c4⟩ := cells5 (unhide HR)) | (go_at_call 54; (with_reducible refine (in_isKids _ _ _ ?_).mono ?_); (exact at_new rfl); rintro e w1 ⟨rfl, hw⟩; rw [unhide HKi]; have hb := (show Below _ _ w1 by rw [hw]; exact (Below.refl _ _).alloc (Nat.le_refl _) _); clear hw; have HR := hide (row_below (unhide HR) hb); have HB := hide (bnext (unhide HB) hb); clear hb; (try clear c0 c1 c2 c3 c4); obtain ⟨c0, c1, c2, c3, c4⟩ := cells5 (unhide HR)))
  go_ret
  exact ⟨rfl, unhide HB⟩
set_option maxRecDepth 100000 in
set_option maxHeartbeats 400000 in
theorem rnode_nod_kids (T : PT) (w : World) (hc : 12 ≤ T.k ∧ T.k ≤ 17) (hN : T.nm.size ≤ maxLen) (hL : T.len ≤ 4096)  (hk : T.len ≠ 0) :
    Calls Tryz.prog 40 #[pv T] w fun e w' => e = .returned (.int .i64 (errN T)) ∧ Below w.heap.size w w' := by
  unfold pv
  have HE := hide (show errN T = 5 from by
    obtain ⟨e1, e2, e3⟩ := has_nod T hc
    rw [errN_kids T (by omega) (fun x => by omega) (fun x => by omega) (fun x => by omega), e2, e3]
    exact if_pos (by omega))
  rw [unhide HE]
  have HT := hide (show isText T.k = false by unfold isText; simp; omega)
  have HNu := hide (show isNum T.k = false by unfold isNum; simp; omega)
  have HNa := hide (show isName T.k = false by unfold isName; simp; omega)
  have HMa := hide (show isMany T.k = false by unfold isMany; simp; omega)
  have HOn := hide (show isOne T.k = false by unfold isOne; simp; omega)
  have HKi := hide (show isKids T.k = false by unfold isKids; simp; omega)
  have h1 : ¬ T.k < 1 := by omega
  have h2 : ¬ 24 < T.k := by omega
  have h3 : (T.k == 1) = false := by rw [beq_eq_false_iff_ne]; omega
  have h6 : ((T.len : Int) != 0) = true := by rw [bne_iff_ne]; omega
  clear hk

  have HNm := hide (And.intro hN trivial)
  clear hN hc HE
  have HR := hide (at_new (w := w) (o := .cells #[.int .i64 T.k, .string T.t, .int .i64 T.n, .string T.nm, .slice T.xa T.len T.cap] 30) rfl)
  have HB := hide ((Below.refl w.heap.size w).alloc (Nat.le_refl _) (.cells #[.int .i64 T.k, .string T.t, .int .i64 T.n, .string T.nm, .slice T.xa T.len T.cap] 30))
  have c0 := hide trivial
  have c1 := hide trivial
  have c2 := hide trivial
  have c3 := hide trivial
  have c4 := hide trivial
  go_enter Tryz.func40, Tryz.ntmps40
  go_wp2_with (first | (go_at_call 52; refine (texts_any _ _).mono ?_; rintro e w1 ⟨rfl, hb⟩; rw [unhide HT]; have HR := hide (row_below (unhide HR) hb); have HB := hide (bnext (unhide HB) hb); clear hb; (try clear c0 c1 c2 c3 c4); obtain ⟨c0, c1, c2, c3, c4⟩ := cells5 (unhide HR)) | (go_at_call 53; refine (numbers_any _ _).mono ?_; rintro e w1 ⟨rfl, hb⟩; rw [unhide HNu]; have HR := hide (row_below (unhide HR) hb); have HB := hide (bnext (unhide HB) hb); clear hb; (try clear c0 c1 c2 c3 c4); obtain ⟨c0, c1, c2, c3, c4⟩ := cells5 (unhide HR)) | (go_at_call 22; refine (refNamed_any _ _ (unhide HNm).1).mono ?_; rintro e w1 ⟨rfl, hb⟩; rw [(unhide HNm).2]; have HR := hide (row_below (unhide HR) hb); have HB := hide (bnext (unhide HB) hb); clear hb; (try clear c0 c1 c2 c3 c4); obtain ⟨c0, c1, c2, c3, c4⟩ := cells5 (unhide HR)) | (go_at_call 54; (with_reducible refine (in_isName _ _ _ ?_).mono ?_); (exact at_new rfl); rintro e w1 ⟨rfl, hw⟩; rw [unhide HNa]; have hb := (show Below _ _ w1 by rw [hw]; exact (Below.refl _ _).alloc (Nat.le_refl _) _); clear hw; have HR := hide (row_below (unhide HR) hb); have HB := hide (bnext (unhide HB) hb); clear hb; (try clear c0 c1 c2 c3 c4); obtain ⟨c0, c1, c2, c3, c4⟩ := cells5 (unhide HR)) | (go_at_call 54; (with_reducible refine (in_isMany _ _ _ ?_).mono ?_); (exact at_new rfl); rintro e w1 ⟨rfl, hw⟩; rw [unhide HMa]; have hb := (show Below _ _ w1 by rw [hw]; exact (Below.refl _ _).alloc (Nat.le_refl _) _); clear hw; have HR := hide (row_below (unhide HR) hb); have HB := hide (bnext (unhide HB) hb); clear hb; (try clear c0 c1 c2 c3 c4); obtain ⟨c0, c1, c2, c3, c4⟩ := cells5 (unhide HR)) | (go_at_call 54; (with_reducible refine (in_isOne _ _ _ ?_).mono ?_); (exact at_new rfl); rintro e w1 ⟨rfl, hw⟩; rw [unhide HOn]; have hb := (show Below _ _ w1 by rw [hw]; exact (Below.refl _ _).alloc (Nat.le_refl _) _); clear hw; have HR := hide (row_below (unhide HR) hb); have HB := hide (bnext (unhide HB) hb); clear hb; (try clear c0 c1 c2 c3 c4); obtain ⟨c0, c1, c2, c3, c4⟩ := cells5 (unhide HR)) | (go_at_call 54; (with_reducible refine (in_isKids _ _ _ ?_).mono ?_); (exact at_new rfl); rintro e w1 ⟨rfl, hw⟩; rw [unhide HKi]; have hb := (show Below _ _ w1 by rw [hw]; exact (Below.refl _ _).alloc (Nat.le_refl _) _); clear hw; have HR := hide (row_below (unhide HR) hb); have HB := hide (bnext (unhide HB) hb); clear hb; (try clear c0 c1 c2 c3 c4); obtain ⟨c0, c1, c2, c3, c4⟩ := cells5 (unhide HR)))
  go_ret
  exact ⟨rfl, unhide HB⟩
set_option maxRecDepth 100000 in
set_option maxHeartbeats 400000 in
theorem rnode_nod_ok (T : PT) (w : World) (hc : 12 ≤ T.k ∧ T.k ≤ 17) (hN : T.nm.size ≤ maxLen) (hL : T.len ≤ 4096)  (hk : T.len = 0) :
    Calls Tryz.prog 40 #[pv T] w fun e w' => e = .returned (.int .i64 (errN T)) ∧ Below w.heap.size w w' := by
  unfold pv
  have HE := hide (show errN T = 0 from by
    obtain ⟨e1, e2, e3⟩ := has_nod T hc
    rw [errN_kids T (by omega) (fun x => by omega) (fun x => by omega) (fun x => by omega), e2, e3]
    exact if_neg (by omega))
  rw [unhide HE]
  have HT := hide (show isText T.k = false by unfold isText; simp; omega)
  have HNu := hide (show isNum T.k = false by unfold isNum; simp; omega)
  have HNa := hide (show isName T.k = false by unfold isName; simp; omega)
  have HMa := hide (show isMany T.k = false by unfold isMany; simp; omega)
  have HOn := hide (show isOne T.k = false by unfold isOne; simp; omega)
  have HKi := hide (show isKids T.k = false by unfold isKids; simp; omega)
  have h1 : ¬ T.k < 1 := by omega
  have h2 : ¬ 24 < T.k := by omega
  have h3 : (T.k == 1) = false := by rw [beq_eq_false_iff_ne]; omega
  have h6 : ((T.len : Int) != 0) = false := by rw [bne_eq_false_iff_eq]; omega
  clear hk

  have HNm := hide (And.intro hN trivial)
  clear hN hc HE
  have HR := hide (at_new (w := w) (o := .cells #[.int .i64 T.k, .string T.t, .int .i64 T.n, .string T.nm, .slice T.xa T.len T.cap] 30) rfl)
  have HB := hide ((Below.refl w.heap.size w).alloc (Nat.le_refl _) (.cells #[.int .i64 T.k, .string T.t, .int .i64 T.n, .string T.nm, .slice T.xa T.len T.cap] 30))
  have c0 := hide trivial
  have c1 := hide trivial
  have c2 := hide trivial
  have c3 := hide trivial
  have c4 := hide trivial
  go_enter Tryz.func40, Tryz.ntmps40
  go_wp2_with (first | (go_at_call 52; refine (texts_any _ _).mono ?_; rintro e w1 ⟨rfl, hb⟩; rw [unhide HT]; have HR := hide (row_below (unhide HR) hb); have HB := hide (bnext (unhide HB) hb); clear hb; (try clear c0 c1 c2 c3 c4); obtain ⟨c0, c1, c2, c3, c4⟩ := cells5 (unhide HR)) | (go_at_call 53; refine (numbers_any _ _).mono ?_; rintro e w1 ⟨rfl, hb⟩; rw [unhide HNu]; have HR := hide (row_below (unhide HR) hb); have HB := hide (bnext (unhide HB) hb); clear hb; (try clear c0 c1 c2 c3 c4); obtain ⟨c0, c1, c2, c3, c4⟩ := cells5 (unhide HR)) | (go_at_call 22; refine (refNamed_any _ _ (unhide HNm).1).mono ?_; rintro e w1 ⟨rfl, hb⟩; rw [(unhide HNm).2]; have HR := hide (row_below (unhide HR) hb); have HB := hide (bnext (unhide HB) hb); clear hb; (try clear c0 c1 c2 c3 c4); obtain ⟨c0, c1, c2, c3, c4⟩ := cells5 (unhide HR)) | (go_at_call 54; (with_reducible refine (in_isName _ _ _ ?_).mono ?_); (exact at_new rfl); rintro e w1 ⟨rfl, hw⟩; rw [unhide HNa]; have hb := (show Below _ _ w1 by rw [hw]; exact (Below.refl _ _).alloc (Nat.le_refl _) _); clear hw; have HR := hide (row_below (unhide HR) hb); have HB := hide (bnext (unhide HB) hb); clear hb; (try clear c0 c1 c2 c3 c4); obtain ⟨c0, c1, c2, c3, c4⟩ := cells5 (unhide HR)) | (go_at_call 54; (with_reducible refine (in_isMany _ _ _ ?_).mono ?_); (exact at_new rfl); rintro e w1 ⟨rfl, hw⟩; rw [unhide HMa]; have hb := (show Below _ _ w1 by rw [hw]; exact (Below.refl _ _).alloc (Nat.le_refl _) _); clear hw; have HR := hide (row_below (unhide HR) hb); have HB := hide (bnext (unhide HB) hb); clear hb; (try clear c0 c1 c2 c3 c4); obtain ⟨c0, c1, c2, c3, c4⟩ := cells5 (unhide HR)) | (go_at_call 54; (with_reducible refine (in_isOne _ _ _ ?_).mono ?_); (exact at_new rfl); rintro e w1 ⟨rfl, hw⟩; rw [unhide HOn]; have hb := (show Below _ _ w1 by rw [hw]; exact (Below.refl _ _).alloc (Nat.le_refl _) _); clear hw; have HR := hide (row_below (unhide HR) hb); have HB := hide (bnext (unhide HB) hb); clear hb; (try clear c0 c1 c2 c3 c4); obtain ⟨c0, c1, c2, c3, c4⟩ := cells5 (unhide HR)) | (go_at_call 54; (with_reducible refine (in_isKids _ _ _ ?_).mono ?_); (exact at_new rfl); rintro e w1 ⟨rfl, hw⟩; rw [unhide HKi]; have hb := (show Below _ _ w1 by rw [hw]; exact (Below.refl _ _).alloc (Nat.le_refl _) _); clear hw; have HR := hide (row_below (unhide HR) hb); have HB := hide (bnext (unhide HB) hb); clear hb; (try clear c0 c1 c2 c3 c4); obtain ⟨c0, c1, c2, c3, c4⟩ := cells5 (unhide HR)))
  go_ret
  exact ⟨rfl, unhide HB⟩
set_option maxRecDepth 100000 in
set_option maxHeartbeats 400000 in
theorem rnode_man_kids (T : PT) (w : World) (hc : T.k = 18 ∨ T.k = 19) (hN : T.nm.size ≤ maxLen) (hL : T.len ≤ 4096)  (hk : T.len < 2) :
    Calls Tryz.prog 40 #[pv T] w fun e w' => e = .returned (.int .i64 (errN T)) ∧ Below w.heap.size w w' := by
  unfold pv
  have HE := hide (show errN T = 5 from by
    obtain ⟨e1, e2, e3⟩ := has_man T hc
    rw [errN_kids T (by omega) (fun x => by omega) (fun x => by omega) (fun x => by omega), e2, e3]
    exact if_pos (by omega))
  rw [unhide HE]
  have HT := hide (show isText T.k = false by unfold isText; simp; omega)
  have HNu := hide (show isNum T.k = false by unfold isNum; simp; omega)
  have HNa := hide (show isName T.k = false by unfold isName; simp; omega)
  have HMa := hide (show isMany T.k = true by unfold isMany; simp; omega)
  have HOn := hide (show isOne T.k = false by unfold isOne; simp; omega)
  have HKi := hide (show isKids T.k = true by unfold isKids; simp; omega)
  have h1 : ¬ T.k < 1 := by omega
  have h2 : ¬ 24 < T.k := by omega
  have h3 : (T.k == 1) = false := by rw [beq_eq_false_iff_ne]; omega
  have h6 : (T.len : Int) < 2 := by omega
  clear hk

  have HNm := hide (And.intro hN trivial)
  clear hN hc HE
  have HR := hide (at_new (w := w) (o := .cells #[.int .i64 T.k, .string T.t, .int .i64 T.n, .string T.nm, .slice T.xa T.len T.cap] 30) rfl)
  have HB := hide ((Below.refl w.heap.size w).alloc (Nat.le_refl _) (.cells #[.int .i64 T.k, .string T.t, .int .i64 T.n, .string T.nm, .slice T.xa T.len T.cap] 30))
  have c0 := hide trivial
  have c1 := hide trivial
  have c2 := hide trivial
  have c3 := hide trivial
  have c4 := hide trivial
  go_enter Tryz.func40, Tryz.ntmps40
  go_wp2_with (first | (go_at_call 52; refine (texts_any _ _).mono ?_; rintro e w1 ⟨rfl, hb⟩; rw [unhide HT]; have HR := hide (row_below (unhide HR) hb); have HB := hide (bnext (unhide HB) hb); clear hb; (try clear c0 c1 c2 c3 c4); obtain ⟨c0, c1, c2, c3, c4⟩ := cells5 (unhide HR)) | (go_at_call 53; refine (numbers_any _ _).mono ?_; rintro e w1 ⟨rfl, hb⟩; rw [unhide HNu]; have HR := hide (row_below (unhide HR) hb); have HB := hide (bnext (unhide HB) hb); clear hb; (try clear c0 c1 c2 c3 c4); obtain ⟨c0, c1, c2, c3, c4⟩ := cells5 (unhide HR)) | (go_at_call 22; refine (refNamed_any _ _ (unhide HNm).1).mono ?_; rintro e w1 ⟨rfl, hb⟩; rw [(unhide HNm).2]; have HR := hide (row_below (unhide HR) hb); have HB := hide (bnext (unhide HB) hb); clear hb; (try clear c0 c1 c2 c3 c4); obtain ⟨c0, c1, c2, c3, c4⟩ := cells5 (unhide HR)) | (go_at_call 54; (with_reducible refine (in_isName _ _ _ ?_).mono ?_); (exact at_new rfl); rintro e w1 ⟨rfl, hw⟩; rw [unhide HNa]; have hb := (show Below _ _ w1 by rw [hw]; exact (Below.refl _ _).alloc (Nat.le_refl _) _); clear hw; have HR := hide (row_below (unhide HR) hb); have HB := hide (bnext (unhide HB) hb); clear hb; (try clear c0 c1 c2 c3 c4); obtain ⟨c0, c1, c2, c3, c4⟩ := cells5 (unhide HR)) | (go_at_call 54; (with_reducible refine (in_isMany _ _ _ ?_).mono ?_); (exact at_new rfl); rintro e w1 ⟨rfl, hw⟩; rw [unhide HMa]; have hb := (show Below _ _ w1 by rw [hw]; exact (Below.refl _ _).alloc (Nat.le_refl _) _); clear hw; have HR := hide (row_below (unhide HR) hb); have HB := hide (bnext (unhide HB) hb); clear hb; (try clear c0 c1 c2 c3 c4); obtain ⟨c0, c1, c2, c3, c4⟩ := cells5 (unhide HR)) | (go_at_call 54; (with_reducible refine (in_isOne _ _ _ ?_).mono ?_); (exact at_new rfl); rintro e w1 ⟨rfl, hw⟩; rw [unhide HOn]; have hb := (show Below _ _ w1 by rw [hw]; exact (Below.refl _ _).alloc (Nat.le_refl _) _); clear hw; have HR := hide (row_below (unhide HR) hb); have HB := hide (bnext (unhide HB) hb); clear hb; (try clear c0 c1 c2 c3 c4); obtain ⟨c0, c1, c2, c3, c4⟩ := cells5 (unhide HR)) | (go_at_call 54; (with_reducible refine (in_isKids _ _ _ ?_).mono ?_); (exact at_new rfl); rintro e w1 ⟨rfl, hw⟩; rw [unhide HKi]; have hb := (show Below _ _ w1 by rw [hw]; exact (Below.refl _ _).alloc (Nat.le_refl _) _); clear hw; have HR := hide (row_below (unhide HR) hb); have HB := hide (bnext (unhide HB) hb); clear hb; (try clear c0 c1 c2 c3 c4); obtain ⟨c0, c1, c2, c3, c4⟩ := cells5 (unhide HR)))
  go_ret
  exact ⟨rfl, unhide HB⟩
set_option maxRecDepth 100000 in
set_option maxHeartbeats 400000 in
theorem rnode_man_ok (T : PT) (w : World) (hc : T.k = 18 ∨ T.k = 19) (hN : T.nm.size ≤ maxLen) (hL : T.len ≤ 4096)  (hk : 2 ≤ T.len) :
    Calls Tryz.prog 40 #[pv T] w fun e w' => e = .returned (.int .i64 (errN T)) ∧ Below w.heap.size w w' := by
  unfold pv
  have HE := hide (show errN T = 0 from by
    obtain ⟨e1, e2, e3⟩ := has_man T hc
    rw [errN_kids T (by omega) (fun x => by omega) (fun x => by omega) (fun x => by omega), e2, e3]
    exact if_neg (by omega))
  rw [unhide HE]
  have HT := hide (show isText T.k = false by unfold isText; simp; omega)
  have HNu := hide (show isNum T.k = false by unfold isNum; simp; omega)
  have HNa := hide (show isName T.k = false by unfold isName; simp; omega)
  have HMa := hide (show isMany T.k = true by unfold isMany; simp; omega)
  have HOn := hide (show isOne T.k = false by unfold isOne; simp; omega)
  have HKi := hide (show isKids T.k = true by unfold isKids; simp; omega)
  have h1 : ¬ T.k < 1 := by omega
  have h2 : ¬ 24 < T.k := by omega
  have h3 : (T.k == 1) = false := by rw [beq_eq_false_iff_ne]; omega
  have h6 : ¬ (T.len : Int) < 2 := by omega
  clear hk

  have HNm := hide (And.intro hN trivial)
  clear hN hc HE
  have HR := hide (at_new (w := w) (o := .cells #[.int .i64 T.k, .string T.t, .int .i64 T.n, .string T.nm, .slice T.xa T.len T.cap] 30) rfl)
  have HB := hide ((Below.refl w.heap.size w).alloc (Nat.le_refl _) (.cells #[.int .i64 T.k, .string T.t, .int .i64 T.n, .string T.nm, .slice T.xa T.len T.cap] 30))
  have c0 := hide trivial
  have c1 := hide trivial
  have c2 := hide trivial
  have c3 := hide trivial
  have c4 := hide trivial
  go_enter Tryz.func40, Tryz.ntmps40
  go_wp2_with (first | (go_at_call 52; refine (texts_any _ _).mono ?_; rintro e w1 ⟨rfl, hb⟩; rw [unhide HT]; have HR := hide (row_below (unhide HR) hb); have HB := hide (bnext (unhide HB) hb); clear hb; (try clear c0 c1 c2 c3 c4); obtain ⟨c0, c1, c2, c3, c4⟩ := cells5 (unhide HR)) | (go_at_call 53; refine (numbers_any _ _).mono ?_; rintro e w1 ⟨rfl, hb⟩; rw [unhide HNu]; have HR := hide (row_below (unhide HR) hb); have HB := hide (bnext (unhide HB) hb); clear hb; (try clear c0 c1 c2 c3 c4); obtain ⟨c0, c1, c2, c3, c4⟩ := cells5 (unhide HR)) | (go_at_call 22; refine (refNamed_any _ _ (unhide HNm).1).mono ?_; rintro e w1 ⟨rfl, hb⟩; rw [(unhide HNm).2]; have HR := hide (row_below (unhide HR) hb); have HB := hide (bnext (unhide HB) hb); clear hb; (try clear c0 c1 c2 c3 c4); obtain ⟨c0, c1, c2, c3, c4⟩ := cells5 (unhide HR)) | (go_at_call 54; (with_reducible refine (in_isName _ _ _ ?_).mono ?_); (exact at_new rfl); rintro e w1 ⟨rfl, hw⟩; rw [unhide HNa]; have hb := (show Below _ _ w1 by rw [hw]; exact (Below.refl _ _).alloc (Nat.le_refl _) _); clear hw; have HR := hide (row_below (unhide HR) hb); have HB := hide (bnext (unhide HB) hb); clear hb; (try clear c0 c1 c2 c3 c4); obtain ⟨c0, c1, c2, c3, c4⟩ := cells5 (unhide HR)) | (go_at_call 54; (with_reducible refine (in_isMany _ _ _ ?_).mono ?_); (exact at_new rfl); rintro e w1 ⟨rfl, hw⟩; rw [unhide HMa]; have hb := (show Below _ _ w1 by rw [hw]; exact (Below.refl _ _).alloc (Nat.le_refl _) _); clear hw; have HR := hide (row_below (unhide HR) hb); have HB := hide (bnext (unhide HB) hb); clear hb; (try clear c0 c1 c2 c3 c4); obtain ⟨c0, c1, c2, c3, c4⟩ := cells5 (unhide HR)) | (go_at_call 54; (with_reducible refine (in_isOne _ _ _ ?_).mono ?_); (exact at_new rfl); rintro e w1 ⟨rfl, hw⟩; rw [unhide HOn]; have hb := (show Below _ _ w1 by rw [hw]; exact (Below.refl _ _).alloc (Nat.le_refl _) _); clear hw; have HR := hide (row_below (unhide HR) hb); have HB := hide (bnext (unhide HB) hb); clear hb; (try clear c0 c1 c2 c3 c4); obtain ⟨c0, c1, c2, c3, c4⟩ := cells5 (unhide HR)) | (go_at_call 54; (with_reducible refine (in_isKids _ _ _ ?_).mono ?_); (exact at_new rfl); rintro e w1 ⟨rfl, hw⟩; rw [unhide HKi]; have hb := (show Below _ _ w1 by rw [hw]; exact (Below.refl _ _).alloc (Nat.le_refl _) _); clear hw; have HR := hide (row_below (unhide HR) hb); have HB := hide (bnext (unhide HB) hb); clear hb; (try clear c0 c1 c2 c3 c4); obtain ⟨c0, c1, c2, c3, c4⟩ := cells5 (unhide HR)))
  go_ret
  exact ⟨rfl, unhide HB⟩
set_option maxRecDepth 100000 in
set_option maxHeartbeats 400000 in
theorem rnode_arb_kids (T : PT) (w : World) (hc : T.k = 20) (hN : T.nm.size ≤ maxLen) (hL : T.len ≤ 4096)  (hk : T.len ≠ 1) :
    Calls Tryz.prog 40 #[pv T] w fun e w' => e = .returned (.int .i64 (errN T)) ∧ Below w.heap.size w w' := by
  unfold pv
  have HE := hide (show errN T = 5 from by
    obtain ⟨e1, e2, e3⟩ := has_arb T hc
    rw [errN_kids T (by omega) (fun x => by omega) (fun x => by omega) (fun x => by omega), e2, e3]
    exact if_pos (by omega))
  rw [unhide HE]
  have HT := hide (show isText T.k = false by unfold isText; simp; omega)
  have HNu := hide (show isNum T.k = false by unfold isNum; simp; omega)
  have HNa := hide (show isName T.k = false by unfold isName; simp; omega)
  have HMa := hide (show isMany T.k = false by unfold isMany; simp; omega)
  have HOn := hide (show isOne T.k = true by unfold isOne; simp; omega)
  have HKi := hide (show isKids T.k = true by unfold isKids; simp; omega)
  have h1 : ¬ T.k < 1 := by omega
  have h2 : ¬ 24 < T.k := by omega
  have h3 : (T.k == 1) = false := by rw [beq_eq_false_iff_ne]; omega
  have h6 : ((T.len : Int) != 1) = true := by rw [bne_iff_ne]; omega
  clear hk

  have HNm := hide (And.intro hN trivial)
  clear hN hc HE
  have HR := hide (at_new (w := w) (o := .cells #[.int .i64 T.k, .string T.t, .int .i64 T.n, .string T.nm, .slice T.xa T.len T.cap] 30) rfl)
  have HB := hide ((Below.refl w.heap.size w).alloc (Nat.le_refl _) (.cells #[.int .i64 T.k, .string T.t, .int .i64 T.n, .string T.nm, .slice T.xa T.len T.cap] 30))
  have c0 := hide trivial
  have c1 := hide trivial
  have c2 := hide trivial
  have c3 := hide trivial
  have c4 := hide trivial
  go_enter Tryz.func40, Tryz.ntmps40
  go_wp2_with (first | (go_at_call 52; refine (texts_any _ _).mono ?_; rintro e w1 ⟨rfl, hb⟩; rw [unhide HT]; have HR := hide (row_below (unhide HR) hb); have HB := hide (bnext (unhide HB) hb); clear hb; (try clear c0 c1 c2 c3 c4); obtain ⟨c0, c1, c2, c3, c4⟩ := cells5 (unhide HR)) | (go_at_call 53; refine (numbers_any _ _).mono ?_; rintro e w1 ⟨rfl, hb⟩; rw [unhide HNu]; have HR := hide (row_below (unhide HR) hb); have HB := hide (bnext (unhide HB) hb); clear hb; (try clear c0 c1 c2 c3 c4); obtain ⟨c0, c1, c2, c3, c4⟩ := cells5 (unhide HR)) | (go_at_call 22; refine (refNamed_any _ _ (unhide HNm).1).mono ?_; rintro e w1 ⟨rfl, hb⟩; rw [(unhide HNm).2]; have HR := hide (row_below (unhide HR) hb); have HB := hide (bnext (unhide HB) hb); clear hb; (try clear c0 c1 c2 c3 c4); obtain ⟨c0, c1, c2, c3, c4⟩ := cells5 (unhide HR)) | (go_at_call 54; (with_reducible refine (in_isName _ _ _ ?_).mono ?_); (exact at_new rfl); rintro e w1 ⟨rfl, hw⟩; rw [unhide HNa]; have hb := (show Below _ _ w1 by rw [hw]; exact (Below.refl _ _).alloc (Nat.le_refl _) _); clear hw; have HR := hide (row_below (unhide HR) hb); have HB := hide (bnext (unhide HB) hb); clear hb; (try clear c0 c1 c2 c3 c4); obtain ⟨c0, c1, c2, c3, c4⟩ := cells5 (unhide HR)) | (go_at_call 54; (with_reducible refine (in_isMany _ _ _ ?_).mono ?_); (exact at_new rfl); rintro e w1 ⟨rfl, hw⟩; rw [unhide HMa]; have hb := (show Below _ _ w1 by rw [hw]; exact (Below.refl _ _).alloc (Nat.le_refl _) _); clear hw; have HR := hide (row_below (unhide HR) hb); have HB := hide (bnext (unhide HB) hb); clear hb; (try clear c0 c1 c2 c3 c4); obtain ⟨c0, c1, c2, c3, c4⟩ := cells5 (unhide HR)) | (go_at_call 54; (with_reducible refine (in_isOne _ _ _ ?_).mono ?_); (exact at_new rfl); rintro e w1 ⟨rfl, hw⟩; rw [unhide HOn]; have hb := (show Below _ _ w1 by rw [hw]; exact (Below.refl _ _).alloc (Nat.le_refl _) _); clear hw; have HR := hide (row_below (unhide HR) hb); have HB := hide (bnext (unhide HB) hb); clear hb; (try clear c0 c1 c2 c3 c4); obtain ⟨c0, c1, c2, c3, c4⟩ := cells5 (unhide HR)) | (go_at_call 54; (with_reducible refine (in_isKids _ _ _ ?_).mono ?_); (exact at_new rfl); rintro e w1 ⟨rfl, hw⟩; rw [unhide HKi]; have hb := (show Below _ _ w1 by rw [hw]; exact (Below.refl _ _).alloc (Nat.le_refl _) _); clear hw; have HR := hide (row_below (unhide HR) hb); have HB := hide (bnext (unhide HB) hb); clear hb; (try clear c0 c1 c2 c3 c4); obtain ⟨c0, c1, c2, c3, c4⟩ := cells5 (unhide HR)))
  go_ret
  exact ⟨rfl, unhide HB⟩
set_option maxRecDepth 100000 in
set_option maxHeartbeats 400000 in
theorem rnode_arb_ok (T : PT) (w : World) (hc : T.k = 20) (hN : T.nm.size ≤ maxLen) (hL : T.len ≤ 4096)  (hk : T.len = 1) :
    Calls Tryz.prog 40 #[pv T] w fun e w' => e = .returned (.int .i64 (errN T)) ∧ Below w.heap.size w w' := by
  unfold pv
  have HE := hide (show errN T = 0 from by
    obtain ⟨e1, e2, e3⟩ := has_arb T hc
    rw [errN_kids T (by omega) (fun x => by omega) (fun x => by omega) (fun x => by omega), e2, e3]
    exact if_neg (by omega))
  rw [unhide HE]
  have HT := hide (show isText T.k = false by unfold isText; simp; omega)
  have HNu := hide (show isNum T.k = false by unfold isNum; simp; omega)
  have HNa := hide (show isName T.k = false by unfold isName; simp; omega)
  have HMa := hide (show isMany T.k = false by unfold isMany; simp; omega)
  have HOn := hide (show isOne T.k = true by unfold isOne; simp; omega)
  have HKi := hide (show isKids T.k = true by unfold isKids; simp; omega)
  have h1 : ¬ T.k < 1 := by omega
  have h2 : ¬ 24 < T.k := by omega
  have h3 : (T.k == 1) = false := by rw [beq_eq_false_iff_ne]; omega
  have h6 : ((T.len : Int) != 1) = false := by rw [bne_eq_false_iff_eq]; omega
  clear hk

  have HNm := hide (And.intro hN trivial)
  clear hN hc HE
  have HR := hide (at_new (w := w) (o := .cells #[.int .i64 T.k, .string T.t, .int .i64 T.n, .string T.nm, .slice T.xa T.len T.cap] 30) rfl)
  have HB := hide ((Below.refl w.heap.size w).alloc (Nat.le_refl _) (.cells #[.int .i64 T.k, .string T.t, .int .i64 T.n, .string T.nm, .slice T.xa T.len T.cap] 30))
  have c0 := hide trivial
  have c1 := hide trivial
  have c2 := hide trivial
  have c3 := hide trivial
  have c4 := hide trivial
  go_enter Tryz.func40, Tryz.ntmps40
  go_wp2_with (first | (go_at_call 52; refine (texts_any _ _).mono ?_; rintro e w1 ⟨rfl, hb⟩; rw [unhide HT]; have HR := hide (row_below (unhide HR) hb); have HB := hide (bnext (unhide HB) hb); clear hb; (try clear c0 c1 c2 c3 c4); obtain ⟨c0, c1, c2, c3, c4⟩ := cells5 (unhide HR)) | (go_at_call 53; refine (numbers_any _ _).mono ?_; rintro e w1 ⟨rfl, hb⟩; rw [unhide HNu]; have HR := hide (row_below (unhide HR) hb); have HB := hide (bnext (unhide HB) hb); clear hb; (try clear c0 c1 c2 c3 c4); obtain ⟨c0, c1, c2, c3, c4⟩ := cells5 (unhide HR)) | (go_at_call 22; refine (refNamed_any _ _ (unhide HNm).1).mono ?_; rintro e w1 ⟨rfl, hb⟩; rw [(unhide HNm).2]; have HR := hide (row_below (unhide HR) hb); have HB := hide (bnext (unhide HB) hb); clear hb; (try clear c0 c1 c2 c3 c4); obtain ⟨c0, c1, c2, c3, c4⟩ := cells5 (unhide HR)) | (go_at_call 54; (with_reducible refine (in_isName _ _ _ ?_).mono ?_); (exact at_new rfl); rintro e w1 ⟨rfl, hw⟩; rw [unhide HNa]; have hb := (show Below _ _ w1 by rw [hw]; exact (Below.refl _ _).alloc (Nat.le_refl _) _); clear hw; have HR := hide (row_below (unhide HR) hb); have HB := hide (bnext (unhide HB) hb); clear hb; (try clear c0 c1 c2 c3 c4); obtain ⟨c0, c1, c2, c3, c4⟩ := cells5 (unhide HR)) | (go_at_call 54; (with_reducible refine (in_isMany _ _ _ ?_).mono ?_); (exact at_new rfl); rintro e w1 ⟨rfl, hw⟩; rw [unhide HMa]; have hb := (show Below _ _ w1 by rw [hw]; exact (Below.refl _ _).alloc (Nat.le_refl _) _); clear hw; have HR := hide (row_below (unhide HR) hb); have HB := hide (bnext (unhide HB) hb); clear hb; (try clear c0 c1 c2 c3 c4); obtain ⟨c0, c1, c2, c3, c4⟩ := cells5 (unhide HR)) | (go_at_call 54; (with_reducible refine (in_isOne _ _ _ ?_).mono ?_); (exact at_new rfl); rintro e w1 ⟨rfl, hw⟩; rw [unhide HOn]; have hb := (show Below _ _ w1 by rw [hw]; exact (Below.refl _ _).alloc (Nat.le_refl _) _); clear hw; have HR := hide (row_below (unhide HR) hb); have HB := hide (bnext (unhide HB) hb); clear hb; (try clear c0 c1 c2 c3 c4); obtain ⟨c0, c1, c2, c3, c4⟩ := cells5 (unhide HR)) | (go_at_call 54; (with_reducible refine (in_isKids _ _ _ ?_).mono ?_); (exact at_new rfl); rintro e w1 ⟨rfl, hw⟩; rw [unhide HKi]; have hb := (show Below _ _ w1 by rw [hw]; exact (Below.refl _ _).alloc (Nat.le_refl _) _); clear hw; have HR := hide (row_below (unhide HR) hb); have HB := hide (bnext (unhide HB) hb); clear hb; (try clear c0 c1 c2 c3 c4); obtain ⟨c0, c1, c2, c3, c4⟩ := cells5 (unhide HR)))
  go_ret
  exact ⟨rfl, unhide HB⟩
set_option maxRecDepth 100000 in
set_option maxHeartbeats 400000 in
theorem rnode_giv_not (T : PT) (w : World) (hc : T.k = 21 ∨ T.k = 22) (hN : T.nm.size ≤ maxLen) (hL : T.len ≤ 4096) (hnm : named T.nm = false) :
    Calls Tryz.prog 40 #[pv T] w fun e w' => e = .returned (.int .i64 (errN T)) ∧ Below w.heap.size w w' := by
  unfold pv
  have HE := hide (show errN T = 7 from errN_name T (by omega) hnm)
  rw [unhide HE]
  have HT := hide (show isText T.k = false by unfold isText; simp; omega)
  have HNu := hide (show isNum T.k = false by unfold isNum; simp; omega)
  have HNa := hide (show isName T.k = true by unfold isName; simp; omega)
  have HMa := hide (show isMany T.k = false by unfold isMany; simp; omega)
  have HOn := hide (show isOne T.k = true by unfold isOne; simp; omega)
  have HKi := hide (show isKids T.k = true by unfold isKids; simp; omega)
  have h1 : ¬ T.k < 1 := by omega
  have h2 : ¬ 24 < T.k := by omega
  have h3 : (T.k == 1) = false := by rw [beq_eq_false_iff_ne]; omega

  have HNm := hide (And.intro hN hnm)
  clear hN hc HE
  have HR := hide (at_new (w := w) (o := .cells #[.int .i64 T.k, .string T.t, .int .i64 T.n, .string T.nm, .slice T.xa T.len T.cap] 30) rfl)
  have HB := hide ((Below.refl w.heap.size w).alloc (Nat.le_refl _) (.cells #[.int .i64 T.k, .string T.t, .int .i64 T.n, .string T.nm, .slice T.xa T.len T.cap] 30))
  have c0 := hide trivial
  have c1 := hide trivial
  have c2 := hide trivial
  have c3 := hide trivial
  have c4 := hide trivial
  go_enter Tryz.func40, Tryz.ntmps40
  go_wp2_with (first | (go_at_call 52; refine (texts_any _ _).mono ?_; rintro e w1 ⟨rfl, hb⟩; rw [unhide HT]; have HR := hide (row_below (unhide HR) hb); have HB := hide (bnext (unhide HB) hb); clear hb; (try clear c0 c1 c2 c3 c4); obtain ⟨c0, c1, c2, c3, c4⟩ := cells5 (unhide HR)) | (go_at_call 53; refine (numbers_any _ _).mono ?_; rintro e w1 ⟨rfl, hb⟩; rw [unhide HNu]; have HR := hide (row_below (unhide HR) hb); have HB := hide (bnext (unhide HB) hb); clear hb; (try clear c0 c1 c2 c3 c4); obtain ⟨c0, c1, c2, c3, c4⟩ := cells5 (unhide HR)) | (go_at_call 22; refine (refNamed_any _ _ (unhide HNm).1).mono ?_; rintro e w1 ⟨rfl, hb⟩; rw [(unhide HNm).2]; have HR := hide (row_below (unhide HR) hb); have HB := hide (bnext (unhide HB) hb); clear hb; (try clear c0 c1 c2 c3 c4); obtain ⟨c0, c1, c2, c3, c4⟩ := cells5 (unhide HR)) | (go_at_call 54; (with_reducible refine (in_isName _ _ _ ?_).mono ?_); (exact at_new rfl); rintro e w1 ⟨rfl, hw⟩; rw [unhide HNa]; have hb := (show Below _ _ w1 by rw [hw]; exact (Below.refl _ _).alloc (Nat.le_refl _) _); clear hw; have HR := hide (row_below (unhide HR) hb); have HB := hide (bnext (unhide HB) hb); clear hb; (try clear c0 c1 c2 c3 c4); obtain ⟨c0, c1, c2, c3, c4⟩ := cells5 (unhide HR)) | (go_at_call 54; (with_reducible refine (in_isMany _ _ _ ?_).mono ?_); (exact at_new rfl); rintro e w1 ⟨rfl, hw⟩; rw [unhide HMa]; have hb := (show Below _ _ w1 by rw [hw]; exact (Below.refl _ _).alloc (Nat.le_refl _) _); clear hw; have HR := hide (row_below (unhide HR) hb); have HB := hide (bnext (unhide HB) hb); clear hb; (try clear c0 c1 c2 c3 c4); obtain ⟨c0, c1, c2, c3, c4⟩ := cells5 (unhide HR)) | (go_at_call 54; (with_reducible refine (in_isOne _ _ _ ?_).mono ?_); (exact at_new rfl); rintro e w1 ⟨rfl, hw⟩; rw [unhide HOn]; have hb := (show Below _ _ w1 by rw [hw]; exact (Below.refl _ _).alloc (Nat.le_refl _) _); clear hw; have HR := hide (row_below (unhide HR) hb); have HB := hide (bnext (unhide HB) hb); clear hb; (try clear c0 c1 c2 c3 c4); obtain ⟨c0, c1, c2, c3, c4⟩ := cells5 (unhide HR)) | (go_at_call 54; (with_reducible refine (in_isKids _ _ _ ?_).mono ?_); (exact at_new rfl); rintro e w1 ⟨rfl, hw⟩; rw [unhide HKi]; have hb := (show Below _ _ w1 by rw [hw]; exact (Below.refl _ _).alloc (Nat.le_refl _) _); clear hw; have HR := hide (row_below (unhide HR) hb); have HB := hide (bnext (unhide HB) hb); clear hb; (try clear c0 c1 c2 c3 c4); obtain ⟨c0, c1, c2, c3, c4⟩ := cells5 (unhide HR)))
  go_ret
  exact ⟨rfl, unhide HB⟩
set_option maxRecDepth 100000 in
set_option maxHeartbeats 400000 in
theorem rnode_giv_kids (T : PT) (w : World) (hc : T.k = 21 ∨ T.k = 22) (hN : T.nm.size ≤ maxLen) (hL : T.len ≤ 4096) (hnm : named T.nm = true) (hk : T.len ≠ 1) :
    Calls Tryz.prog 40 #[pv T] w fun e w' => e = .returned (.int .i64 (errN T)) ∧ Below w.heap.size w w' := by
  unfold pv
  have HE := hide (show errN T = 5 from by
    obtain ⟨e1, e2, e3⟩ := has_giv T hc
    rw [errN_kids T (by omega) (fun x => by omega) (fun x => by omega) (fun x => by exact hnm), e2, e3]
    exact if_pos (by omega))
  rw [unhide HE]
  have HT := hide (show isText T.k = false by unfold isText; simp; omega)
  have HNu := hide (show isNum T.k = false by unfold isNum; simp; omega)
  have HNa := hide (show isName T.k = true by unfold isName; simp; omega)
  have HMa := hide (show isMany T.k = false by unfold isMany; simp; omega)
  have HOn := hide (show isOne T.k = true by unfold isOne; simp; omega)
  have HKi := hide (show isKids T.k = true by unfold isKids; simp; omega)
  have h1 : ¬ T.k < 1 := by omega
  have h2 : ¬ 24 < T.k := by omega
  have h3 : (T.k == 1) = false := by rw [beq_eq_false_iff_ne]; omega
  have h6 : ((T.len : Int) != 1) = true := by rw [bne_iff_ne]; omega
  clear hk

  have HNm := hide (And.intro hN hnm)
  clear hN hc HE
  have HR := hide (at_new (w := w) (o := .cells #[.int .i64 T.k, .string T.t, .int .i64 T.n, .string T.nm, .slice T.xa T.len T.cap] 30) rfl)
  have HB := hide ((Below.refl w.heap.size w).alloc (Nat.le_refl _) (.cells #[.int .i64 T.k, .string T.t, .int .i64 T.n, .string T.nm, .slice T.xa T.len T.cap] 30))
  have c0 := hide trivial
  have c1 := hide trivial
  have c2 := hide trivial
  have c3 := hide trivial
  have c4 := hide trivial
  go_enter Tryz.func40, Tryz.ntmps40
  go_wp2_with (first | (go_at_call 52; refine (texts_any _ _).mono ?_; rintro e w1 ⟨rfl, hb⟩; rw [unhide HT]; have HR := hide (row_below (unhide HR) hb); have HB := hide (bnext (unhide HB) hb); clear hb; (try clear c0 c1 c2 c3 c4); obtain ⟨c0, c1, c2, c3, c4⟩ := cells5 (unhide HR)) | (go_at_call 53; refine (numbers_any _ _).mono ?_; rintro e w1 ⟨rfl, hb⟩; rw [unhide HNu]; have HR := hide (row_below (unhide HR) hb); have HB := hide (bnext (unhide HB) hb); clear hb; (try clear c0 c1 c2 c3 c4); obtain ⟨c0, c1, c2, c3, c4⟩ := cells5 (unhide HR)) | (go_at_call 22; refine (refNamed_any _ _ (unhide HNm).1).mono ?_; rintro e w1 ⟨rfl, hb⟩; rw [(unhide HNm).2]; have HR := hide (row_below (unhide HR) hb); have HB := hide (bnext (unhide HB) hb); clear hb; (try clear c0 c1 c2 c3 c4); obtain ⟨c0, c1, c2, c3, c4⟩ := cells5 (unhide HR)) | (go_at_call 54; (with_reducible refine (in_isName _ _ _ ?_).mono ?_); (exact at_new rfl); rintro e w1 ⟨rfl, hw⟩; rw [unhide HNa]; have hb := (show Below _ _ w1 by rw [hw]; exact (Below.refl _ _).alloc (Nat.le_refl _) _); clear hw; have HR := hide (row_below (unhide HR) hb); have HB := hide (bnext (unhide HB) hb); clear hb; (try clear c0 c1 c2 c3 c4); obtain ⟨c0, c1, c2, c3, c4⟩ := cells5 (unhide HR)) | (go_at_call 54; (with_reducible refine (in_isMany _ _ _ ?_).mono ?_); (exact at_new rfl); rintro e w1 ⟨rfl, hw⟩; rw [unhide HMa]; have hb := (show Below _ _ w1 by rw [hw]; exact (Below.refl _ _).alloc (Nat.le_refl _) _); clear hw; have HR := hide (row_below (unhide HR) hb); have HB := hide (bnext (unhide HB) hb); clear hb; (try clear c0 c1 c2 c3 c4); obtain ⟨c0, c1, c2, c3, c4⟩ := cells5 (unhide HR)) | (go_at_call 54; (with_reducible refine (in_isOne _ _ _ ?_).mono ?_); (exact at_new rfl); rintro e w1 ⟨rfl, hw⟩; rw [unhide HOn]; have hb := (show Below _ _ w1 by rw [hw]; exact (Below.refl _ _).alloc (Nat.le_refl _) _); clear hw; have HR := hide (row_below (unhide HR) hb); have HB := hide (bnext (unhide HB) hb); clear hb; (try clear c0 c1 c2 c3 c4); obtain ⟨c0, c1, c2, c3, c4⟩ := cells5 (unhide HR)) | (go_at_call 54; (with_reducible refine (in_isKids _ _ _ ?_).mono ?_); (exact at_new rfl); rintro e w1 ⟨rfl, hw⟩; rw [unhide HKi]; have hb := (show Below _ _ w1 by rw [hw]; exact (Below.refl _ _).alloc (Nat.le_refl _) _); clear hw; have HR := hide (row_below (unhide HR) hb); have HB := hide (bnext (unhide HB) hb); clear hb; (try clear c0 c1 c2 c3 c4); obtain ⟨c0, c1, c2, c3, c4⟩ := cells5 (unhide HR)))
  go_ret
  exact ⟨rfl, unhide HB⟩
set_option maxRecDepth 100000 in
set_option maxHeartbeats 400000 in
theorem rnode_giv_ok (T : PT) (w : World) (hc : T.k = 21 ∨ T.k = 22) (hN : T.nm.size ≤ maxLen) (hL : T.len ≤ 4096) (hnm : named T.nm = true) (hk : T.len = 1) :
    Calls Tryz.prog 40 #[pv T] w fun e w' => e = .returned (.int .i64 (errN T)) ∧ Below w.heap.size w w' := by
  unfold pv
  have HE := hide (show errN T = 0 from by
    obtain ⟨e1, e2, e3⟩ := has_giv T hc
    rw [errN_kids T (by omega) (fun x => by omega) (fun x => by omega) (fun x => by exact hnm), e2, e3]
    exact if_neg (by omega))
  rw [unhide HE]
  have HT := hide (show isText T.k = false by unfold isText; simp; omega)
  have HNu := hide (show isNum T.k = false by unfold isNum; simp; omega)
  have HNa := hide (show isName T.k = true by unfold isName; simp; omega)
  have HMa := hide (show isMany T.k = false by unfold isMany; simp; omega)
  have HOn := hide (show isOne T.k = true by unfold isOne; simp; omega)
  have HKi := hide (show isKids T.k = true by unfold isKids; simp; omega)
  have h1 : ¬ T.k < 1 := by omega
  have h2 : ¬ 24 < T.k := by omega
  have h3 : (T.k == 1) = false := by rw [beq_eq_false_iff_ne]; omega
  have h6 : ((T.len : Int) != 1) = false := by rw [bne_eq_false_iff_eq]; omega
  clear hk

  have HNm := hide (And.intro hN hnm)
  clear hN hc HE
  have HR := hide (at_new (w := w) (o := .cells #[.int .i64 T.k, .string T.t, .int .i64 T.n, .string T.nm, .slice T.xa T.len T.cap] 30) rfl)
  have HB := hide ((Below.refl w.heap.size w).alloc (Nat.le_refl _) (.cells #[.int .i64 T.k, .string T.t, .int .i64 T.n, .string T.nm, .slice T.xa T.len T.cap] 30))
  have c0 := hide trivial
  have c1 := hide trivial
  have c2 := hide trivial
  have c3 := hide trivial
  have c4 := hide trivial
  go_enter Tryz.func40, Tryz.ntmps40
  go_wp2_with (first | (go_at_call 52; refine (texts_any _ _).mono ?_; rintro e w1 ⟨rfl, hb⟩; rw [unhide HT]; have HR := hide (row_below (unhide HR) hb); have HB := hide (bnext (unhide HB) hb); clear hb; (try clear c0 c1 c2 c3 c4); obtain ⟨c0, c1, c2, c3, c4⟩ := cells5 (unhide HR)) | (go_at_call 53; refine (numbers_any _ _).mono ?_; rintro e w1 ⟨rfl, hb⟩; rw [unhide HNu]; have HR := hide (row_below (unhide HR) hb); have HB := hide (bnext (unhide HB) hb); clear hb; (try clear c0 c1 c2 c3 c4); obtain ⟨c0, c1, c2, c3, c4⟩ := cells5 (unhide HR)) | (go_at_call 22; refine (refNamed_any _ _ (unhide HNm).1).mono ?_; rintro e w1 ⟨rfl, hb⟩; rw [(unhide HNm).2]; have HR := hide (row_below (unhide HR) hb); have HB := hide (bnext (unhide HB) hb); clear hb; (try clear c0 c1 c2 c3 c4); obtain ⟨c0, c1, c2, c3, c4⟩ := cells5 (unhide HR)) | (go_at_call 54; (with_reducible refine (in_isName _ _ _ ?_).mono ?_); (exact at_new rfl); rintro e w1 ⟨rfl, hw⟩; rw [unhide HNa]; have hb := (show Below _ _ w1 by rw [hw]; exact (Below.refl _ _).alloc (Nat.le_refl _) _); clear hw; have HR := hide (row_below (unhide HR) hb); have HB := hide (bnext (unhide HB) hb); clear hb; (try clear c0 c1 c2 c3 c4); obtain ⟨c0, c1, c2, c3, c4⟩ := cells5 (unhide HR)) | (go_at_call 54; (with_reducible refine (in_isMany _ _ _ ?_).mono ?_); (exact at_new rfl); rintro e w1 ⟨rfl, hw⟩; rw [unhide HMa]; have hb := (show Below _ _ w1 by rw [hw]; exact (Below.refl _ _).alloc (Nat.le_refl _) _); clear hw; have HR := hide (row_below (unhide HR) hb); have HB := hide (bnext (unhide HB) hb); clear hb; (try clear c0 c1 c2 c3 c4); obtain ⟨c0, c1, c2, c3, c4⟩ := cells5 (unhide HR)) | (go_at_call 54; (with_reducible refine (in_isOne _ _ _ ?_).mono ?_); (exact at_new rfl); rintro e w1 ⟨rfl, hw⟩; rw [unhide HOn]; have hb := (show Below _ _ w1 by rw [hw]; exact (Below.refl _ _).alloc (Nat.le_refl _) _); clear hw; have HR := hide (row_below (unhide HR) hb); have HB := hide (bnext (unhide HB) hb); clear hb; (try clear c0 c1 c2 c3 c4); obtain ⟨c0, c1, c2, c3, c4⟩ := cells5 (unhide HR)) | (go_at_call 54; (with_reducible refine (in_isKids _ _ _ ?_).mono ?_); (exact at_new rfl); rintro e w1 ⟨rfl, hw⟩; rw [unhide HKi]; have hb := (show Below _ _ w1 by rw [hw]; exact (Below.refl _ _).alloc (Nat.le_refl _) _); clear hw; have HR := hide (row_below (unhide HR) hb); have HB := hide (bnext (unhide HB) hb); clear hb; (try clear c0 c1 c2 c3 c4); obtain ⟨c0, c1, c2, c3, c4⟩ := cells5 (unhide HR)))
  go_ret
  exact ⟨rfl, unhide HB⟩
set_option maxRecDepth 100000 in
set_option maxHeartbeats 400000 in
theorem rnode_nam_not (T : PT) (w : World) (hc : T.k = 23 ∨ T.k = 24) (hN : T.nm.size ≤ maxLen) (hL : T.len ≤ 4096) (hnm : named T.nm = false) :
    Calls Tryz.prog 40 #[pv T] w fun e w' => e = .returned (.int .i64 (errN T)) ∧ Below w.heap.size w w' := by
  unfold pv
  have HE := hide (show errN T = 7 from errN_name T (by omega) hnm)
  rw [unhide HE]
  have HT := hide (show isText T.k = false by unfold isText; simp; omega)
  have HNu := hide (show isNum T.k = false by unfold isNum; simp; omega)
  have HNa := hide (show isName T.k = true by unfold isName; simp; omega)
  have HMa := hide (show isMany T.k = false by unfold isMany; simp; omega)
  have HOn := hide (show isOne T.k = false by unfold isOne; simp; omega)
  have HKi := hide (show isKids T.k = false by unfold isKids; simp; omega)
  have h1 : ¬ T.k < 1 := by omega
  have h2 : ¬ 24 < T.k := by omega
  have h3 : (T.k == 1) = false := by rw [beq_eq_false_iff_ne]; omega

  have HNm := hide (And.intro hN hnm)
  clear hN hc HE
  have HR := hide (at_new (w := w) (o := .cells #[.int .i64 T.k, .string T.t, .int .i64 T.n, .string T.nm, .slice T.xa T.len T.cap] 30) rfl)
  have HB := hide ((Below.refl w.heap.size w).alloc (Nat.le_refl _) (.cells #[.int .i64 T.k, .string T.t, .int .i64 T.n, .string T.nm, .slice T.xa T.len T.cap] 30))
  have c0 := hide trivial
  have c1 := hide trivial
  have c2 := hide trivial
  have c3 := hide trivial
  have c4 := hide trivial
  go_enter Tryz.func40, Tryz.ntmps40
  go_wp2_with (first | (go_at_call 52; refine (texts_any _ _).mono ?_; rintro e w1 ⟨rfl, hb⟩; rw [unhide HT]; have HR := hide (row_below (unhide HR) hb); have HB := hide (bnext (unhide HB) hb); clear hb; (try clear c0 c1 c2 c3 c4); obtain ⟨c0, c1, c2, c3, c4⟩ := cells5 (unhide HR)) | (go_at_call 53; refine (numbers_any _ _).mono ?_; rintro e w1 ⟨rfl, hb⟩; rw [unhide HNu]; have HR := hide (row_below (unhide HR) hb); have HB := hide (bnext (unhide HB) hb); clear hb; (try clear c0 c1 c2 c3 c4); obtain ⟨c0, c1, c2, c3, c4⟩ := cells5 (unhide HR)) | (go_at_call 22; refine (refNamed_any _ _ (unhide HNm).1).mono ?_; rintro e w1 ⟨rfl, hb⟩; rw [(unhide HNm).2]; have HR := hide (row_below (unhide HR) hb); have HB := hide (bnext (unhide HB) hb); clear hb; (try clear c0 c1 c2 c3 c4); obtain ⟨c0, c1, c2, c3, c4⟩ := cells5 (unhide HR)) | (go_at_call 54; (with_reducible refine (in_isName _ _ _ ?_).mono ?_); (exact at_new rfl); rintro e w1 ⟨rfl, hw⟩; rw [unhide HNa]; have hb := (show Below _ _ w1 by rw [hw]; exact (Below.refl _ _).alloc (Nat.le_refl _) _); clear hw; have HR := hide (row_below (unhide HR) hb); have HB := hide (bnext (unhide HB) hb); clear hb; (try clear c0 c1 c2 c3 c4); obtain ⟨c0, c1, c2, c3, c4⟩ := cells5 (unhide HR)) | (go_at_call 54; (with_reducible refine (in_isMany _ _ _ ?_).mono ?_); (exact at_new rfl); rintro e w1 ⟨rfl, hw⟩; rw [unhide HMa]; have hb := (show Below _ _ w1 by rw [hw]; exact (Below.refl _ _).alloc (Nat.le_refl _) _); clear hw; have HR := hide (row_below (unhide HR) hb); have HB := hide (bnext (unhide HB) hb); clear hb; (try clear c0 c1 c2 c3 c4); obtain ⟨c0, c1, c2, c3, c4⟩ := cells5 (unhide HR)) | (go_at_call 54; (with_reducible refine (in_isOne _ _ _ ?_).mono ?_); (exact at_new rfl); rintro e w1 ⟨rfl, hw⟩; rw [unhide HOn]; have hb := (show Below _ _ w1 by rw [hw]; exact (Below.refl _ _).alloc (Nat.le_refl _) _); clear hw; have HR := hide (row_below (unhide HR) hb); have HB := hide (bnext (unhide HB) hb); clear hb; (try clear c0 c1 c2 c3 c4); obtain ⟨c0, c1, c2, c3, c4⟩ := cells5 (unhide HR)) | (go_at_call 54; (with_reducible refine (in_isKids _ _ _ ?_).mono ?_); (exact at_new rfl); rintro e w1 ⟨rfl, hw⟩; rw [unhide HKi]; have hb := (show Below _ _ w1 by rw [hw]; exact (Below.refl _ _).alloc (Nat.le_refl _) _); clear hw; have HR := hide (row_below (unhide HR) hb); have HB := hide (bnext (unhide HB) hb); clear hb; (try clear c0 c1 c2 c3 c4); obtain ⟨c0, c1, c2, c3, c4⟩ := cells5 (unhide HR)))
  go_ret
  exact ⟨rfl, unhide HB⟩
set_option maxRecDepth 100000 in
set_option maxHeartbeats 400000 in
theorem rnode_nam_kids (T : PT) (w : World) (hc : T.k = 23 ∨ T.k = 24) (hN : T.nm.size ≤ maxLen) (hL : T.len ≤ 4096) (hnm : named T.nm = true) (hk : T.len ≠ 0) :
    Calls Tryz.prog 40 #[pv T] w fun e w' => e = .returned (.int .i64 (errN T)) ∧ Below w.heap.size w w' := by
  unfold pv
  have HE := hide (show errN T = 5 from by
    obtain ⟨e1, e2, e3⟩ := has_nam T hc
    rw [errN_kids T (by omega) (fun x => by omega) (fun x => by omega) (fun x => by exact hnm), e2, e3]
    exact if_pos (by omega))
  rw [unhide HE]
  have HT := hide (show isText T.k = false by unfold isText; simp; omega)
  have HNu := hide (show isNum T.k = false by unfold isNum; simp; omega)
  have HNa := hide (show isName T.k = true by unfold isName; simp; omega)
  have HMa := hide (show isMany T.k = false by unfold isMany; simp; omega)
  have HOn := hide (show isOne T.k = false by unfold isOne; simp; omega)
  have HKi := hide (show isKids T.k = false by unfold isKids; simp; omega)
  have h1 : ¬ T.k < 1 := by omega
  have h2 : ¬ 24 < T.k := by omega
  have h3 : (T.k == 1) = false := by rw [beq_eq_false_iff_ne]; omega
  have h6 : ((T.len : Int) != 0) = true := by rw [bne_iff_ne]; omega
  clear hk

  have HNm := hide (And.intro hN hnm)
  clear hN hc HE
  have HR := hide (at_new (w := w) (o := .cells #[.int .i64 T.k, .string T.t, .int .i64 T.n, .string T.nm, .slice T.xa T.len T.cap] 30) rfl)
  have HB := hide ((Below.refl w.heap.size w).alloc (Nat.le_refl _) (.cells #[.int .i64 T.k, .string T.t, .int .i64 T.n, .string T.nm, .slice T.xa T.len T.cap] 30))
  have c0 := hide trivial
  have c1 := hide trivial
  have c2 := hide trivial
  have c3 := hide trivial
  have c4 := hide trivial
  go_enter Tryz.func40, Tryz.ntmps40
  go_wp2_with (first | (go_at_call 52; refine (texts_any _ _).mono ?_; rintro e w1 ⟨rfl, hb⟩; rw [unhide HT]; have HR := hide (row_below (unhide HR) hb); have HB := hide (bnext (unhide HB) hb); clear hb; (try clear c0 c1 c2 c3 c4); obtain ⟨c0, c1, c2, c3, c4⟩ := cells5 (unhide HR)) | (go_at_call 53; refine (numbers_any _ _).mono ?_; rintro e w1 ⟨rfl, hb⟩; rw [unhide HNu]; have HR := hide (row_below (unhide HR) hb); have HB := hide (bnext (unhide HB) hb); clear hb; (try clear c0 c1 c2 c3 c4); obtain ⟨c0, c1, c2, c3, c4⟩ := cells5 (unhide HR)) | (go_at_call 22; refine (refNamed_any _ _ (unhide HNm).1).mono ?_; rintro e w1 ⟨rfl, hb⟩; rw [(unhide HNm).2]; have HR := hide (row_below (unhide HR) hb); have HB := hide (bnext (unhide HB) hb); clear hb; (try clear c0 c1 c2 c3 c4); obtain ⟨c0, c1, c2, c3, c4⟩ := cells5 (unhide HR)) | (go_at_call 54; (with_reducible refine (in_isName _ _ _ ?_).mono ?_); (exact at_new rfl); rintro e w1 ⟨rfl, hw⟩; rw [unhide HNa]; have hb := (show Below _ _ w1 by rw [hw]; exact (Below.refl _ _).alloc (Nat.le_refl _) _); clear hw; have HR := hide (row_below (unhide HR) hb); have HB := hide (bnext (unhide HB) hb); clear hb; (try clear c0 c1 c2 c3 c4); obtain ⟨c0, c1, c2, c3, c4⟩ := cells5 (unhide HR)) | (go_at_call 54; (with_reducible refine (in_isMany _ _ _ ?_).mono ?_); (exact at_new rfl); rintro e w1 ⟨rfl, hw⟩; rw [unhide HMa]; have hb := (show Below _ _ w1 by rw [hw]; exact (Below.refl _ _).alloc (Nat.le_refl _) _); clear hw; have HR := hide (row_below (unhide HR) hb); have HB := hide (bnext (unhide HB) hb); clear hb; (try clear c0 c1 c2 c3 c4); obtain ⟨c0, c1, c2, c3, c4⟩ := cells5 (unhide HR)) | (go_at_call 54; (with_reducible refine (in_isOne _ _ _ ?_).mono ?_); (exact at_new rfl); rintro e w1 ⟨rfl, hw⟩; rw [unhide HOn]; have hb := (show Below _ _ w1 by rw [hw]; exact (Below.refl _ _).alloc (Nat.le_refl _) _); clear hw; have HR := hide (row_below (unhide HR) hb); have HB := hide (bnext (unhide HB) hb); clear hb; (try clear c0 c1 c2 c3 c4); obtain ⟨c0, c1, c2, c3, c4⟩ := cells5 (unhide HR)) | (go_at_call 54; (with_reducible refine (in_isKids _ _ _ ?_).mono ?_); (exact at_new rfl); rintro e w1 ⟨rfl, hw⟩; rw [unhide HKi]; have hb := (show Below _ _ w1 by rw [hw]; exact (Below.refl _ _).alloc (Nat.le_refl _) _); clear hw; have HR := hide (row_below (unhide HR) hb); have HB := hide (bnext (unhide HB) hb); clear hb; (try clear c0 c1 c2 c3 c4); obtain ⟨c0, c1, c2, c3, c4⟩ := cells5 (unhide HR)))
  go_ret
  exact ⟨rfl, unhide HB⟩
set_option maxRecDepth 100000 in
set_option maxHeartbeats 400000 in
theorem rnode_nam_ok (T : PT) (w : World) (hc : T.k = 23 ∨ T.k = 24) (hN : T.nm.size ≤ maxLen) (hL : T.len ≤ 4096) (hnm : named T.nm = true) (hk : T.len = 0) :
    Calls Tryz.prog 40 #[pv T] w fun e w' => e = .returned (.int .i64 (errN T)) ∧ Below w.heap.size w w' := by
  unfold pv
  have HE := hide (show errN T = 0 from by
    obtain ⟨e1, e2, e3⟩ := has_nam T hc
    rw [errN_kids T (by omega) (fun x => by omega) (fun x => by omega) (fun x => by exact hnm), e2, e3]
    exact if_neg (by omega))
  rw [unhide HE]
  have HT := hide (show isText T.k = false by unfold isText; simp; omega)
  have HNu := hide (show isNum T.k = false by unfold isNum; simp; omega)
  have HNa := hide (show isName T.k = true by unfold isName; simp; omega)
  have HMa := hide (show isMany T.k = false by unfold isMany; simp; omega)
  have HOn := hide (show isOne T.k = false by unfold isOne; simp; omega)
  have HKi := hide (show isKids T.k = false by unfold isKids; simp; omega)
  have h1 : ¬ T.k < 1 := by omega
  have h2 : ¬ 24 < T.k := by omega
  have h3 : (T.k == 1) = false := by rw [beq_eq_false_iff_ne]; omega
  have h6 : ((T.len : Int) != 0) = false := by rw [bne_eq_false_iff_eq]; omega
  clear hk

  have HNm := hide (And.intro hN hnm)
  clear hN hc HE
  have HR := hide (at_new (w := w) (o := .cells #[.int .i64 T.k, .string T.t, .int .i64 T.n, .string T.nm, .slice T.xa T.len T.cap] 30) rfl)
  have HB := hide ((Below.refl w.heap.size w).alloc (Nat.le_refl _) (.cells #[.int .i64 T.k, .string T.t, .int .i64 T.n, .string T.nm, .slice T.xa T.len T.cap] 30))
  have c0 := hide trivial
  have c1 := hide trivial
  have c2 := hide trivial
  have c3 := hide trivial
  have c4 := hide trivial
  go_enter Tryz.func40, Tryz.ntmps40
  go_wp2_with (first | (go_at_call 52; refine (texts_any _ _).mono ?_; rintro e w1 ⟨rfl, hb⟩; rw [unhide HT]; have HR := hide (row_below (unhide HR) hb); have HB := hide (bnext (unhide HB) hb); clear hb; (try clear c0 c1 c2 c3 c4); obtain ⟨c0, c1, c2, c3, c4⟩ := cells5 (unhide HR)) | (go_at_call 53; refine (numbers_any _ _).mono ?_; rintro e w1 ⟨rfl, hb⟩; rw [unhide HNu]; have HR := hide (row_below (unhide HR) hb); have HB := hide (bnext (unhide HB) hb); clear hb; (try clear c0 c1 c2 c3 c4); obtain ⟨c0, c1, c2, c3, c4⟩ := cells5 (unhide HR)) | (go_at_call 22; refine (refNamed_any _ _ (unhide HNm).1).mono ?_; rintro e w1 ⟨rfl, hb⟩; rw [(unhide HNm).2]; have HR := hide (row_below (unhide HR) hb); have HB := hide (bnext (unhide HB) hb); clear hb; (try clear c0 c1 c2 c3 c4); obtain ⟨c0, c1, c2, c3, c4⟩ := cells5 (unhide HR)) | (go_at_call 54; (with_reducible refine (in_isName _ _ _ ?_).mono ?_); (exact at_new rfl); rintro e w1 ⟨rfl, hw⟩; rw [unhide HNa]; have hb := (show Below _ _ w1 by rw [hw]; exact (Below.refl _ _).alloc (Nat.le_refl _) _); clear hw; have HR := hide (row_below (unhide HR) hb); have HB := hide (bnext (unhide HB) hb); clear hb; (try clear c0 c1 c2 c3 c4); obtain ⟨c0, c1, c2, c3, c4⟩ := cells5 (unhide HR)) | (go_at_call 54; (with_reducible refine (in_isMany _ _ _ ?_).mono ?_); (exact at_new rfl); rintro e w1 ⟨rfl, hw⟩; rw [unhide HMa]; have hb := (show Below _ _ w1 by rw [hw]; exact (Below.refl _ _).alloc (Nat.le_refl _) _); clear hw; have HR := hide (row_below (unhide HR) hb); have HB := hide (bnext (unhide HB) hb); clear hb; (try clear c0 c1 c2 c3 c4); obtain ⟨c0, c1, c2, c3, c4⟩ := cells5 (unhide HR)) | (go_at_call 54; (with_reducible refine (in_isOne _ _ _ ?_).mono ?_); (exact at_new rfl); rintro e w1 ⟨rfl, hw⟩; rw [unhide HOn]; have hb := (show Below _ _ w1 by rw [hw]; exact (Below.refl _ _).alloc (Nat.le_refl _) _); clear hw; have HR := hide (row_below (unhide HR) hb); have HB := hide (bnext (unhide HB) hb); clear hb; (try clear c0 c1 c2 c3 c4); obtain ⟨c0, c1, c2, c3, c4⟩ := cells5 (unhide HR)) | (go_at_call 54; (with_reducible refine (in_isKids _ _ _ ?_).mono ?_); (exact at_new rfl); rintro e w1 ⟨rfl, hw⟩; rw [unhide HKi]; have hb := (show Below _ _ w1 by rw [hw]; exact (Below.refl _ _).alloc (Nat.le_refl _) _); clear hw; have HR := hide (row_below (unhide HR) hb); have HB := hide (bnext (unhide HB) hb); clear hb; (try clear c0 c1 c2 c3 c4); obtain ⟨c0, c1, c2, c3, c4⟩ := cells5 (unhide HR)))
  go_ret
  exact ⟨rfl, unhide HB⟩
theorem rnode_any (T : PT) (w : World) (hT : T.In w) (hL : T.len ≤ 4096) :
    Calls Tryz.prog 40 #[pv T] w fun e w' => e = .returned (.int .i64 (errN T)) ∧ Below w.heap.size w w' := by
  have hN := hT.name
  by_cases h : T.k < 1 ∨ 24 < T.k
  · exact rnode_kind T w h
  have hk : (T.k = 1) ∨ (3 ≤ T.k ∧ T.k ≤ 7) ∨ (T.k = 2 ∨ (8 ≤ T.k ∧ T.k ≤ 11)) ∨ (12 ≤ T.k ∧ T.k ≤ 17) ∨ (T.k = 18 ∨ T.k = 19) ∨ (T.k = 20) ∨ (T.k = 21 ∨ T.k = 22) ∨ (T.k = 23 ∨ T.k = 24) := by omega
  rcases hk with hc | hc | hc | hc | hc | hc | hc | hc
  · by_cases hl : 65536 < T.t.size
    · exact rnode_lit_much T w hc hN hL hl
    by_cases hk : T.len = 0
    · exact rnode_lit_ok T w hc hN hL (by omega) hk
    · exact rnode_lit_kids T w hc hN hL (by omega) hk
  · by_cases hl : 65536 < T.t.size
    · exact rnode_txt_much T w hc hN hL hl
    by_cases h0 : T.t.size = 0
    · exact rnode_txt_empty T w hc hN hL h0
    by_cases hk : T.len = 0
    · exact rnode_txt_ok T w hc hN hL (by omega) h0 hk
    · exact rnode_txt_kids T w hc hN hL (by omega) h0 hk
  · by_cases hl : T.n < 0
    · exact rnode_num_low T w hc hN hL hl
    by_cases h0 : 65536 < T.n
    · exact rnode_num_high T w hc hN hL h0
    by_cases hk : T.len = 0
    · exact rnode_num_ok T w hc hN hL (by omega) (by omega) hk
    · exact rnode_num_kids T w hc hN hL (by omega) (by omega) hk
  · skip
    by_cases hk : T.len = 0
    · exact rnode_nod_ok T w hc hN hL  hk
    · exact rnode_nod_kids T w hc hN hL  hk
  · skip
    by_cases hk : T.len < 2
    · exact rnode_man_kids T w hc hN hL  hk
    · exact rnode_man_ok T w hc hN hL  (by omega)
  · skip
    by_cases hk : T.len = 1
    · exact rnode_arb_ok T w hc hN hL  hk
    · exact rnode_arb_kids T w hc hN hL  hk
  · cases hnm : named T.nm
    · exact rnode_giv_not T w hc hN hL hnm
    by_cases hk : T.len = 1
    · exact rnode_giv_ok T w hc hN hL hnm hk
    · exact rnode_giv_kids T w hc hN hL hnm hk
  · cases hnm : named T.nm
    · exact rnode_nam_not T w hc hN hL hnm
    by_cases hk : T.len = 0
    · exact rnode_nam_ok T w hc hN hL hnm hk
    · exact rnode_nam_kids T w hc hN hL hnm hk
end Go.Proofs.YtpphjddljngkmaaGreatDoor
