/- What the document's Show does of pieces and alternatives; Show and Print of any pattern. -/
import Derived.Test.YtpphjddljngkmaaGreatDoorRefShow4dP
import Derived.Test.YtpphjddljngkmaaGreatDoorRefWrong4M
namespace Go.Proofs.YtpphjddljngkmaaGreatDoor
open Go.RowKit
set_option linter.unusedVariables false

def jb (sep : List UInt8) (T : PT) (k : Nat) : ByteArray := ⟨(joinTo sep T.kidT k).toArray⟩
theorem jb_step0 (sep : ByteArray) (T : PT) (j : Int) (h : (T.k = 19 ∧ j = 1) ∨ (T.k ≠ 19 ∧ j = 0)) : jb sep.data.toList T 1 = jb sep.data.toList T 0 ++ ⟨((T.kid 0).shown j).toArray⟩ := by
  unfold jb
  apply ByteArray.ext
  apply Array.ext'
  simp [joinTo, shown_kid j 0 h]
theorem jb_step (sep : ByteArray) (T : PT) (j : Int) (k : Nat) (hk : 0 < k) (h : (T.k = 19 ∧ j = 1) ∨ (T.k ≠ 19 ∧ j = 0)) : jb sep.data.toList T (k + 1) = jb sep.data.toList T k ++ sep ++ ⟨((T.kid k).shown j).toArray⟩ := by
  unfold jb
  apply ByteArray.ext
  apply Array.ext'
  simp [joinTo, hk, shown_kid j k h]
theorem jb_size {T : PT} (hbad : T.bad = 0) (hcnt : T.cnt ≤ 4096) (sep : List UInt8) (hs : sep.length ≤ 3) (k : Nat) (hk : k ≤ T.len) : (jb sep T k).size ≤ 600000000 := by
  have h1 := joinTo_len sep hs T.kidT (fun i => (T.kid i).cnt) k (fun i hi => by
    have h1 := txt_len ((bad_zero hbad).2 i (by omega))
    have h2 : (T.kidT i).length ≤ (T.kid i).txt.length + 2 := inB_len _ _
    omega)
  have h2 := sumTo_le (fun i => (T.kid i).cnt) hk
  have h3 := T.cnt_eq
  show (joinTo sep T.kidT k).toArray.size ≤ _
  rw [List.size_toArray]
  omega
set_option maxRecDepth 100000 in
set_option maxHeartbeats 1000000 in
theorem show_cat (T : PT) (hc : T.k = 18) (ih : ∀ i, i < T.len → ShowSays (T.kid i)) : ShowSays T := by
  intro w i hT hbad hcnt hi0 hi2
  obtain ⟨r1, r2, r3, r4, r5, r6, r7⟩ := right_node (bad_zero hbad).1
  have hte := PT.txt_eq r1
  have HT := hide (show isText T.k = false by unfold isText; simp; omega)
  have HNu := hide (show isNum T.k = false by unfold isNum; simp; omega)
  have e1 : (T.k == 1) = false := by rw [beq_eq_false_iff_ne]; omega
  have e20 : (T.k == 20) = false := by rw [beq_eq_false_iff_ne]; omega
  have e21 : (T.k == 21) = false := by rw [beq_eq_false_iff_ne]; omega
  have e22 : (T.k == 22) = false := by rw [beq_eq_false_iff_ne]; omega
  have e23 : (T.k == 23) = false := by rw [beq_eq_false_iff_ne]; omega
  have e24 : (T.k == 24) = false := by rw [beq_eq_false_iff_ne]; omega
  have e18 : (T.k == 18) = true := by rw [beq_iff_eq]; omega
  have e19 : (T.k == 19) = false := by rw [beq_eq_false_iff_ne]; omega
  have HR := hide (at_new (w := w) (o := .cells #[.int .i64 T.k, .string T.t, .int .i64 T.n, .string T.nm, .slice T.xa T.len T.cap] 30) rfl)
  have HB := hide ((Below.refl w.heap.size w).alloc (Nat.le_refl _) (.cells #[.int .i64 T.k, .string T.t, .int .i64 T.n, .string T.nm, .slice T.xa T.len T.cap] 30))
  have c0 := hide trivial
  have c1 := hide trivial
  have c2 := hide trivial
  have c3 := hide trivial
  have c4 := hide trivial
  have hmax := hT.max
  unfold maxLen at hmax
  have hte2 : T.txt = joinTo [32] T.kidT T.len := by rw [hte, if_neg (by omega), if_pos hc]
  have HJ := hide (fun k hk => jb_size hbad hcnt [32] (by decide) k hk)
  have HS0 := hide (jb_step0 ⟨#[32]⟩ T 0 (.inr ⟨by omega, rfl⟩))
  have HS1 := hide (fun k hk => jb_step ⟨#[32]⟩ T 0 k hk (.inr ⟨by omega, rfl⟩))
  have HD := hide (And.intro hT (And.intro (fun i hi W (h : Below w.heap.size w W) => ih i hi W 0 (PT.In.later h (hT.kids hi)) ((bad_zero hbad).2 i hi) (by have := kidS_cnt hi; omega) (by omega) (by omega)) (fun i hi => shown_len (T := T.kid i) 0 ((bad_zero hbad).2 i hi))))
  have HCN := hide (And.intro hcnt (fun i (hi : i < T.len) => kidS_cnt hi))
  have HTX := hide (show (i = 0) → (⟨(T.shown i).toArray⟩ : ByteArray) = ⟨#[40]⟩ ++ jb [32] T T.len ++ ⟨#[41]⟩ from fun h => by
    unfold PT.shown inB jb
    rw [hc, hte2]
    apply ByteArray.ext
    apply Array.ext'
    simp [h])
  have HTN := hide (show ¬ (i = 0) → (⟨(T.shown i).toArray⟩ : ByteArray) = jb [32] T T.len from fun h => by
    unfold PT.shown inB jb
    rw [hc, hte2]
    simp [h])
  clear hT hbad hcnt r1 r2 r3 r4 r5 r6 r7 hte hte2 ih hc
  go_enter Tryz.func46, Tryz.ntmps46
  go_wp2_with (first | (go_at_call 52; refine (texts_any _ _).mono ?_; rintro e w1 ⟨rfl, hb⟩; rw [unhide HT]; have HR := hide (row_below (unhide HR) hb); have HB := hide (bnext (unhide HB) hb); clear hb; (try clear c0 c1 c2 c3 c4); obtain ⟨c0, c1, c2, c3, c4⟩ := cells5s (unhide HR)) | (go_at_call 53; refine (numbers_any _ _).mono ?_; rintro e w1 ⟨rfl, hb⟩; rw [unhide HNu]; have HR := hide (row_below (unhide HR) hb); have HB := hide (bnext (unhide HB) hb); clear hb; (try clear c0 c1 c2 c3 c4); obtain ⟨c0, c1, c2, c3, c4⟩ := cells5s (unhide HR)))
  clear c0 c1 c2 c3 c4
  go_loopw [5, 101] (fun s ix wr => ∃ k : Nat, k ≤ T.len ∧ ix = .int .i64 (k : Int) ∧ s = .string (jb [32] T k) ∧ Below w.heap.size w wr) (fun _ ix _ => T.len - (intOf ix).toNat)
  case atStart => exact ⟨0, by omega, rfl, rfl, unhide HB⟩
  case round =>
    obtain ⟨k, hk, rfl, rfl, hb⟩ := hrel
    have hjs := unhide HJ k hk
    rcases Nat.lt_or_ge k T.len with hkt | hkt
    · obtain ⟨hT, hI, hsl⟩ := unhide HD
      obtain ⟨k0, k1, k2, k3, k4⟩ := hT.cells hkt
      have k0 := cell_later hb k0
      have k1 := cell_later hb k1
      have k2 := cell_later hb k2
      have k3 := cell_later hb k3
      have k4 := cell_later hb k4
      unfold PT.kv at k4
      have hia := kid_at hT hkt
      have hn := (Below.refl wr.heap.size wr).alloc (Nat.le_refl _) (.cells #[.int .i64 (T.kid k).k, .string (T.kid k).t, .int .i64 (T.kid k).n, .string (T.kid k).nm, .slice (T.kid k).xa (T.kid k).len (T.kid k).cap] 30)
      have HI := hide (hI k hkt _ (bnext hb hn))
      have HB2 := hide (bnext hb hn)
      have hxz : (⟨((T.kid k).shown 0).toArray⟩ : ByteArray).size ≤ 600000000 := by
        have h1 := hsl k hkt
        have h2 := (unhide HCN).2 k hkt
        have h3 := (unhide HCN).1
        show ((T.kid k).shown 0).toArray.size ≤ _
        rw [List.size_toArray]; omega
      have HST := hide (show (k = 0 → jb [32] T (k + 1) = jb [32] T k ++ ⟨((T.kid k).shown 0).toArray⟩) ∧ (0 < k → jb [32] T (k + 1) = jb [32] T k ++ ⟨#[32]⟩ ++ ⟨((T.kid k).shown 0).toArray⟩) from ⟨fun h => by subst h; exact unhide HS0, fun h => unhide HS1 k h⟩)
      clear hT hI hsl hb hn
      obtain ⟨x, hx⟩ : ∃ x, x = (⟨((T.kid k).shown 0).toArray⟩ : ByteArray) := ⟨_, rfl⟩
      rw [← hx] at HI hxz HST
      have HX := hide hx
      clear hx
      obtain ⟨A, hA⟩ : ∃ A, A = jb [32] T k := ⟨_, rfl⟩
      rw [← hA] at hjs HST
      have HAA := hide hA
      rw [← hA]
      clear hA
      rcases Nat.eq_zero_or_pos k with hk0 | hk0
      · have hk1 : ¬ (0 : Int) < (k : Int) := by omega
        have g1 : ¬ 9223372036854775807 < A.size + x.size := by omega
        have HN := hide ((unhide HST).1 hk0)
        clear hjs hxz hk0
        go_wp2_with (go_at_call 46; (with_reducible refine (unhide HI).mono ?_); rintro e w2 ⟨rfl, hb2⟩; have HB3 := hide (bnext (unhide HB2) hb2); clear hb2)
        exact ⟨⟨k + 1, by omega, by go_num, by rw [unhide HN], unhide HB3⟩, by simp [intOf]; omega⟩
      · have hk1 : (0 : Int) < (k : Int) := by omega
        have g1 : ¬ 9223372036854775807 < A.size + 1 := by omega
        have g2 : ¬ 9223372036854775807 < A.size + 1 + x.size := by omega
        have HN := hide ((unhide HST).2 hk0)
        clear hjs hxz hk0
        go_wp2_with (go_at_call 46; (with_reducible refine (unhide HI).mono ?_); rintro e w2 ⟨rfl, hb2⟩; have HB3 := hide (bnext (unhide HB2) hb2); clear hb2)
        exact ⟨⟨k + 1, by omega, by go_num, by rw [unhide HN], unhide HB3⟩, by simp [intOf]; omega⟩
    · obtain rfl : k = T.len := by omega
      have HB2 := hide hb
      clear hb
      obtain ⟨A, hA⟩ : ∃ A, A = jb [32] T T.len := ⟨_, rfl⟩
      rw [← hA] at hjs HTX HTN
      rw [← hA]
      clear hA
      have g1 : ¬ 9223372036854775807 < 1 + A.size := by omega
      have g2 : ¬ 9223372036854775807 < 1 + A.size + 1 := by omega
      by_cases hi : i = 0
      · have HE := hide (unhide HTX hi)
        have hb1 : (i == 0) = true := by rw [beq_iff_eq]; exact hi
        clear hjs
        go_wp2_with fail
        go_ret
        exact ⟨by rw [unhide HE]; rfl, unhide HB2⟩
      · have HE := hide (unhide HTN (by omega))
        have hb1 : (i == 0) = false := by rw [beq_eq_false_iff_ne]; exact hi
        clear hjs
        go_wp2_with fail
        go_ret
        exact ⟨by rw [unhide HE]; rfl, unhide HB2⟩
set_option maxRecDepth 100000 in
set_option maxHeartbeats 1000000 in
theorem show_alt (T : PT) (hc : T.k = 19) (ih : ∀ i, i < T.len → ShowSays (T.kid i)) : ShowSays T := by
  intro w i hT hbad hcnt hi0 hi2
  obtain ⟨r1, r2, r3, r4, r5, r6, r7⟩ := right_node (bad_zero hbad).1
  have hte := PT.txt_eq r1
  have HT := hide (show isText T.k = false by unfold isText; simp; omega)
  have HNu := hide (show isNum T.k = false by unfold isNum; simp; omega)
  have e1 : (T.k == 1) = false := by rw [beq_eq_false_iff_ne]; omega
  have e20 : (T.k == 20) = false := by rw [beq_eq_false_iff_ne]; omega
  have e21 : (T.k == 21) = false := by rw [beq_eq_false_iff_ne]; omega
  have e22 : (T.k == 22) = false := by rw [beq_eq_false_iff_ne]; omega
  have e23 : (T.k == 23) = false := by rw [beq_eq_false_iff_ne]; omega
  have e24 : (T.k == 24) = false := by rw [beq_eq_false_iff_ne]; omega
  have e18 : (T.k == 18) = false := by rw [beq_eq_false_iff_ne]; omega
  have e19 : (T.k == 19) = true := by rw [beq_iff_eq]; omega
  have HR := hide (at_new (w := w) (o := .cells #[.int .i64 T.k, .string T.t, .int .i64 T.n, .string T.nm, .slice T.xa T.len T.cap] 30) rfl)
  have HB := hide ((Below.refl w.heap.size w).alloc (Nat.le_refl _) (.cells #[.int .i64 T.k, .string T.t, .int .i64 T.n, .string T.nm, .slice T.xa T.len T.cap] 30))
  have c0 := hide trivial
  have c1 := hide trivial
  have c2 := hide trivial
  have c3 := hide trivial
  have c4 := hide trivial
  have hmax := hT.max
  unfold maxLen at hmax
  have hte2 : T.txt = joinTo [32, 124, 32] T.kidT T.len := by rw [hte, if_neg (by omega), if_neg (by omega), if_pos hc]
  have HJ := hide (fun k hk => jb_size hbad hcnt [32, 124, 32] (by decide) k hk)
  have HS0 := hide (jb_step0 ⟨#[32, 124, 32]⟩ T 1 (.inl ⟨hc, rfl⟩))
  have HS1 := hide (fun k hk => jb_step ⟨#[32, 124, 32]⟩ T 1 k hk (.inl ⟨hc, rfl⟩))
  have HD := hide (And.intro hT (And.intro (fun i hi W (h : Below w.heap.size w W) => ih i hi W 1 (PT.In.later h (hT.kids hi)) ((bad_zero hbad).2 i hi) (by have := kidS_cnt hi; omega) (by omega) (by omega)) (fun i hi => shown_len (T := T.kid i) 1 ((bad_zero hbad).2 i hi))))
  have HCN := hide (And.intro hcnt (fun i (hi : i < T.len) => kidS_cnt hi))
  have HTX := hide (show (i < 2) → (⟨(T.shown i).toArray⟩ : ByteArray) = ⟨#[40]⟩ ++ jb [32, 124, 32] T T.len ++ ⟨#[41]⟩ from fun h => by
    unfold PT.shown inB jb
    rw [hc, hte2]
    apply ByteArray.ext
    apply Array.ext'
    simp [h])
  have HTN := hide (show ¬ (i < 2) → (⟨(T.shown i).toArray⟩ : ByteArray) = jb [32, 124, 32] T T.len from fun h => by
    unfold PT.shown inB jb
    rw [hc, hte2]
    simp [h])
  clear hT hbad hcnt r1 r2 r3 r4 r5 r6 r7 hte hte2 ih hc
  go_enter Tryz.func46, Tryz.ntmps46
  go_wp2_with (first | (go_at_call 52; refine (texts_any _ _).mono ?_; rintro e w1 ⟨rfl, hb⟩; rw [unhide HT]; have HR := hide (row_below (unhide HR) hb); have HB := hide (bnext (unhide HB) hb); clear hb; (try clear c0 c1 c2 c3 c4); obtain ⟨c0, c1, c2, c3, c4⟩ := cells5s (unhide HR)) | (go_at_call 53; refine (numbers_any _ _).mono ?_; rintro e w1 ⟨rfl, hb⟩; rw [unhide HNu]; have HR := hide (row_below (unhide HR) hb); have HB := hide (bnext (unhide HB) hb); clear hb; (try clear c0 c1 c2 c3 c4); obtain ⟨c0, c1, c2, c3, c4⟩ := cells5s (unhide HR)))
  clear c0 c1 c2 c3 c4
  go_loopw [5, 128] (fun s ix wr => ∃ k : Nat, k ≤ T.len ∧ ix = .int .i64 (k : Int) ∧ s = .string (jb [32, 124, 32] T k) ∧ Below w.heap.size w wr) (fun _ ix _ => T.len - (intOf ix).toNat)
  case atStart => exact ⟨0, by omega, rfl, rfl, unhide HB⟩
  case round =>
    obtain ⟨k, hk, rfl, rfl, hb⟩ := hrel
    have hjs := unhide HJ k hk
    rcases Nat.lt_or_ge k T.len with hkt | hkt
    · obtain ⟨hT, hI, hsl⟩ := unhide HD
      obtain ⟨k0, k1, k2, k3, k4⟩ := hT.cells hkt
      have k0 := cell_later hb k0
      have k1 := cell_later hb k1
      have k2 := cell_later hb k2
      have k3 := cell_later hb k3
      have k4 := cell_later hb k4
      unfold PT.kv at k4
      have hia := kid_at hT hkt
      have hn := (Below.refl wr.heap.size wr).alloc (Nat.le_refl _) (.cells #[.int .i64 (T.kid k).k, .string (T.kid k).t, .int .i64 (T.kid k).n, .string (T.kid k).nm, .slice (T.kid k).xa (T.kid k).len (T.kid k).cap] 30)
      have HI := hide (hI k hkt _ (bnext hb hn))
      have HB2 := hide (bnext hb hn)
      have hxz : (⟨((T.kid k).shown 1).toArray⟩ : ByteArray).size ≤ 600000000 := by
        have h1 := hsl k hkt
        have h2 := (unhide HCN).2 k hkt
        have h3 := (unhide HCN).1
        show ((T.kid k).shown 1).toArray.size ≤ _
        rw [List.size_toArray]; omega
      have HST := hide (show (k = 0 → jb [32, 124, 32] T (k + 1) = jb [32, 124, 32] T k ++ ⟨((T.kid k).shown 1).toArray⟩) ∧ (0 < k → jb [32, 124, 32] T (k + 1) = jb [32, 124, 32] T k ++ ⟨#[32, 124, 32]⟩ ++ ⟨((T.kid k).shown 1).toArray⟩) from ⟨fun h => by subst h; exact unhide HS0, fun h => unhide HS1 k h⟩)
      clear hT hI hsl hb hn
      obtain ⟨x, hx⟩ : ∃ x, x = (⟨((T.kid k).shown 1).toArray⟩ : ByteArray) := ⟨_, rfl⟩
      rw [← hx] at HI hxz HST
      have HX := hide hx
      clear hx
      obtain ⟨A, hA⟩ : ∃ A, A = jb [32, 124, 32] T k := ⟨_, rfl⟩
      rw [← hA] at hjs HST
      have HAA := hide hA
      rw [← hA]
      clear hA
      rcases Nat.eq_zero_or_pos k with hk0 | hk0
      · have hk1 : ¬ (0 : Int) < (k : Int) := by omega
        have g1 : ¬ 9223372036854775807 < A.size + x.size := by omega
        have HN := hide ((unhide HST).1 hk0)
        clear hjs hxz hk0
        go_wp2_with (go_at_call 46; (with_reducible refine (unhide HI).mono ?_); rintro e w2 ⟨rfl, hb2⟩; have HB3 := hide (bnext (unhide HB2) hb2); clear hb2)
        exact ⟨⟨k + 1, by omega, by go_num, by rw [unhide HN], unhide HB3⟩, by simp [intOf]; omega⟩
      · have hk1 : (0 : Int) < (k : Int) := by omega
        have g1 : ¬ 9223372036854775807 < A.size + 3 := by omega
        have g2 : ¬ 9223372036854775807 < A.size + 3 + x.size := by omega
        have HN := hide ((unhide HST).2 hk0)
        clear hjs hxz hk0
        go_wp2_with (go_at_call 46; (with_reducible refine (unhide HI).mono ?_); rintro e w2 ⟨rfl, hb2⟩; have HB3 := hide (bnext (unhide HB2) hb2); clear hb2)
        exact ⟨⟨k + 1, by omega, by go_num, by rw [unhide HN], unhide HB3⟩, by simp [intOf]; omega⟩
    · obtain rfl : k = T.len := by omega
      have HB2 := hide hb
      clear hb
      obtain ⟨A, hA⟩ : ∃ A, A = jb [32, 124, 32] T T.len := ⟨_, rfl⟩
      rw [← hA] at hjs HTX HTN
      rw [← hA]
      clear hA
      have g1 : ¬ 9223372036854775807 < 1 + A.size := by omega
      have g2 : ¬ 9223372036854775807 < 1 + A.size + 1 := by omega
      by_cases hi : i < 2
      · have HE := hide (unhide HTX hi)
        have hb1 : i < 2 := hi
        clear hjs
        go_wp2_with fail
        go_ret
        exact ⟨by rw [unhide HE]; rfl, unhide HB2⟩
      · have HE := hide (unhide HTN (by omega))
        have hb1 : ¬ i < 2 := hi
        clear hjs
        go_wp2_with fail
        go_ret
        exact ⟨by rw [unhide HE]; rfl, unhide HB2⟩
theorem show_step (T : PT) (ih : ∀ i, i < T.len → ShowSays (T.kid i)) : ShowSays T := by
  intro w i hT hbad hcnt hi0 hi2
  obtain ⟨r1, r2, -⟩ := right_node (bad_zero hbad).1
  have h : T.k = 1 ∨ (3 ≤ T.k ∧ T.k ≤ 7) ∨ (T.k = 2 ∨ (8 ≤ T.k ∧ T.k ≤ 11)) ∨ (12 ≤ T.k ∧ T.k ≤ 17) ∨ T.k = 18 ∨ T.k = 19 ∨ T.k = 20 ∨ T.k = 21 ∨ T.k = 22 ∨ T.k = 23 ∨ T.k = 24 := by omega
  rcases h with h | h | h | h | h | h | h | h | h | h | h
  · exact show_lit T h w i hT hbad hcnt hi0 hi2
  · exact show_txt T h w i hT hbad hcnt hi0 hi2
  · exact show_num T h w i hT hbad hcnt hi0 hi2
  · exact show_none T h w i hT hbad hcnt hi0 hi2
  · exact show_cat T h ih w i hT hbad hcnt hi0 hi2
  · exact show_alt T h ih w i hT hbad hcnt hi0 hi2
  · exact show_arb T h ih w i hT hbad hcnt hi0 hi2
  · exact show_cond T h ih w i hT hbad hcnt hi0 hi2
  · exact show_imm T h ih w i hT hbad hcnt hi0 hi2
  · exact show_cur T h w i hT hbad hcnt hi0 hi2
  · exact show_call T h w i hT hbad hcnt hi0 hi2
theorem show_any : ∀ T : PT, ShowSays T := PT.ind fun T ih => show_step T ih
set_option maxRecDepth 100000 in
set_option maxHeartbeats 1000000 in
theorem refPrint_any (T : PT) (w : World) (hT : T.In w) (hN : T.cnt ≤ 1048576) :
    Calls Tryz.prog 27 #[pv T] w fun e w' => e = .returned (printSaid T) ∧ Below w.heap.size w w' := by
  have HW := hide (fun W (h : Below w.heap.size w W) => refWrong_any T W (PT.In.later h hT) hN)
  have HS := hide (fun W (h : Below w.heap.size w W) hb hc => show_any T W 2 (PT.In.later h hT) hb hc (by omega) (by omega))
  have hsh : T.shown 2 = T.txt := by unfold PT.shown inB; simp
  rw [hsh] at HS
  clear hT hsh
  unfold pv at HW
  unfold pv
  have hk0 := (Below.refl w.heap.size w).alloc (Nat.le_refl _) (.cells #[.int .i64 T.k, .string T.t, .int .i64 T.n, .string T.nm, .slice T.xa T.len T.cap] 30)
  go_enter Tryz.func27, Tryz.ntmps27
  go_wp2_with fail
  refine (unhide HW _ hk0).mono ?_
  rintro e w1 ⟨rfl, hb1⟩
  have H1 := hide (bnext hk0 hb1)
  obtain ⟨c0, c1, c2, c3, c4⟩ := cells5s (row_below (at_new rfl) hb1)
  clear hk0 hb1 HW
  by_cases hz : T.wrong = 0
  · have HC := hide (wrong_nought hz)
    have HP := hide (show printSaid T = (if 65536 < T.txt.length then .tuple #[.string ⟨#[]⟩, .int .i64 4] else .tuple #[.string ⟨T.txt.toArray⟩, .int .i64 0]) by unfold printSaid; rw [if_pos hz])
    rw [hz]
    clear hz
    go_wp2_with fail
    refine (unhide HS _ (unhide H1) (unhide HC).1 (unhide HC).2).mono ?_
    rintro e w2 ⟨rfl, hb2⟩
    have H2 := hide (bnext (unhide H1) hb2)
    obtain ⟨x, hx⟩ : ∃ x, x = (⟨T.txt.toArray⟩ : ByteArray) := ⟨_, rfl⟩
    have hxs : x.size = T.txt.length := by rw [hx]; show T.txt.toArray.size = _; rw [List.size_toArray]
    rw [← hx] at HP
    rw [← hx]
    clear hb2 hx c0 c1 c2 c3 c4
    by_cases hl : 65536 < T.txt.length
    · have h1 : 65536 < (x.size : Int) := by omega
      have HE := hide (show printSaid T = .tuple #[.string ⟨#[]⟩, .int .i64 4] by rw [unhide HP, if_pos hl])
      clear hl hxs
      go_wp2_with fail
      go_ret2
      exact ⟨by rw [unhide HE]; rfl, unhide H2⟩
    · have h1 : ¬ 65536 < (x.size : Int) := by omega
      have HE := hide (show printSaid T = .tuple #[.string x, .int .i64 0] by rw [unhide HP, if_neg hl])
      clear hl hxs
      go_wp2_with fail
      go_ret2
      exact ⟨by rw [unhide HE]; rfl, unhide H2⟩
  · have HP := hide (show printSaid T = .tuple #[.string ⟨#[]⟩, .int .i64 T.wrong] by unfold printSaid; rw [if_neg hz])
    have hne : (T.wrong != 0) = true := by rw [bne_iff_ne]; exact hz
    clear hz
    go_wp2_with fail
    go_ret2
    exact ⟨by rw [unhide HP]; rfl, unhide H1⟩
end Go.Proofs.YtpphjddljngkmaaGreatDoor
