/- What the document's Show does of kinds with kids. -/
import Derived.Test.YtpphjddljngkmaaGreatDoorRefShow4cP
namespace Go.Proofs.YtpphjddljngkmaaGreatDoor
open Go.RowKit
set_option linter.unusedVariables false

theorem kid_first {W : World} {T : PT} (hT : T.In W) (h : 0 < T.len) (w : World) :
    (Instr.indexAt 28 (.slice T.xa T.len T.cap) (.int .i64 0)).run Tryz.prog w = .ok (.pointer (some ⟨T.b, T.o, none⟩)) w := by
  have := kid_at hT h w
  simpa using this
theorem kid_cells {W : World} {T : PT} (hT : T.In W) (h : 0 < T.len) : W.cell? ⟨T.b, T.o, none⟩ = some (.int .i64 (T.kid 0).k) ∧ W.cell? ⟨T.b, T.o + 1, none⟩ = some (.string (T.kid 0).t) ∧ W.cell? ⟨T.b, T.o + 2, none⟩ = some (.int .i64 (T.kid 0).n) ∧ W.cell? ⟨T.b, T.o + 3, none⟩ = some (.string (T.kid 0).nm) ∧ W.cell? ⟨T.b, T.o + 4, none⟩ = some (.slice (T.kid 0).xa (T.kid 0).len (T.kid 0).cap) := by
  obtain ⟨k0, k1, k2, k3, k4⟩ := hT.cells h
  simp only [Nat.zero_mul, Nat.add_zero] at k0 k1 k2 k3 k4
  exact ⟨k0, k1, k2, k3, k4⟩
theorem kidS_cnt {T : PT} {i : Nat} (h : i < T.len) : (T.kid i).cnt ≤ T.cnt := by
  have h1 := sumTo_le (fun i => (T.kid i).cnt) (show i + 1 ≤ T.len from h)
  have h2 := T.cnt_eq
  simp only [sumTo] at h1
  omega
theorem shown_kid {T : PT} (j : Int) (i : Nat) (h : (T.k = 19 ∧ j = 1) ∨ (T.k ≠ 19 ∧ j = 0)) : T.kidT i = (T.kid i).shown j := by
  unfold PT.kidT PT.shown brk
  congr 1
  rcases h with ⟨h1, rfl⟩ | ⟨h1, rfl⟩
  · rw [h1]; simp
  · simp [h1]
    cases decide ((T.kid i).k = 19) <;> cases decide ((T.kid i).k = 18) <;> rfl
set_option maxRecDepth 100000 in
set_option maxHeartbeats 1000000 in
theorem show_arb (T : PT) (hc : T.k = 20) (ih : ∀ i, i < T.len → ShowSays (T.kid i)) : ShowSays T := by
  intro w i hT hbad hcnt hi0 hi2
  obtain ⟨r1, r2, r3, r4, r5, r6, r7⟩ := right_node (bad_zero hbad).1
  have hte := PT.txt_eq r1
  have HT := hide (show isText T.k = false by unfold isText; simp; omega)
  have HNu := hide (show isNum T.k = false by unfold isNum; simp; omega)
  have e1 : (T.k == 1) = false := by rw [beq_eq_false_iff_ne]; omega
  have e20 : (T.k == 20) = true := by rw [beq_iff_eq]; omega
  have e21 : (T.k == 21) = false := by rw [beq_eq_false_iff_ne]; omega
  have e22 : (T.k == 22) = false := by rw [beq_eq_false_iff_ne]; omega
  have e23 : (T.k == 23) = false := by rw [beq_eq_false_iff_ne]; omega
  have e24 : (T.k == 24) = false := by rw [beq_eq_false_iff_ne]; omega
  have e18 : (T.k == 18) = false := by rw [beq_eq_false_iff_ne]; omega
  have e19 : (T.k == 19) = false := by rw [beq_eq_false_iff_ne]; omega
  have HR := hide (at_new (w := w) (o := .cells #[.int .i64 T.k, .string T.t, .int .i64 T.n, .string T.nm, .slice T.xa T.len T.cap] 30) rfl)
  have HB := hide ((Below.refl w.heap.size w).alloc (Nat.le_refl _) (.cells #[.int .i64 T.k, .string T.t, .int .i64 T.n, .string T.nm, .slice T.xa T.len T.cap] 30))
  have c0 := hide trivial
  have c1 := hide trivial
  have c2 := hide trivial
  have c3 := hide trivial
  have c4 := hide trivial
  have hl0 : 0 < T.len := by have h6 : leastK T.k = 1 := (by unfold leastK; rw [if_neg (by omega), if_pos (by omega)]); omega
  have hl1 : T.len = 1 := by have h7 : mostK T.k = 1 := (by unfold mostK; rw [if_neg (by omega), if_pos (by omega)]); omega
  have hia := kid_first hT hl0
  have HKC := hide (fun W (h : Below w.heap.size w W) => kid_cells (PT.In.later h hT) hl0)
  have hkb := (bad_zero hbad).2 0 hl0
  have hkc := kidS_cnt hl0
  have hxs := shown_len (T := T.kid 0) 2 hkb
  have hI := fun W (h : Below w.heap.size w W) => ih 0 hl0 W 2 (PT.In.later h (hT.kids hl0)) hkb (by omega) (by omega) (by omega)
  have hE : (⟨(T.shown i).toArray⟩ : ByteArray) = ⟨#[65, 82, 66, 78, 79, 40]⟩ ++ ⟨((T.kid 0).shown 2).toArray⟩ ++ ⟨#[41]⟩ := by
    rw [shown_plain i (by omega), hte]
    rw [if_neg (by omega), if_neg (by omega), if_neg (by omega), if_neg (by omega), if_neg (by omega), if_neg (by omega), if_neg (by omega)]
    have h1 : hasK T.k = 0 := by unfold hasK; rw [if_neg (by omega), if_neg (by omega), if_neg (by omega)]
    rw [if_neg (by omega), if_neg (by omega), if_pos hc, hc]
    have h2 : (T.kid 0).shown 2 = (T.kid 0).txt := by unfold PT.shown inB; simp
    rw [h2, show wordK (20 : Int).toNat = ⟨#[65, 82, 66, 78, 79]⟩ from rfl]
    apply ByteArray.ext
    apply Array.ext'
    simp
  obtain ⟨x, hx⟩ : ∃ x, x = (⟨((T.kid 0).shown 2).toArray⟩ : ByteArray) := ⟨_, rfl⟩
  have hxz : x.size ≤ 600000000 := by
    rw [hx]
    show ((T.kid 0).shown 2).toArray.size ≤ _
    rw [List.size_toArray]; omega
  rw [← hx] at hE hI
  have g1 : ¬ 9223372036854775807 < 6 + x.size := by omega
  have g2 : ¬ 9223372036854775807 < 6 + x.size + 1 := by omega
  have HE := hide hE
  have HI := hide hI
  clear hE hI hx hxs hkb hkc hl0 hl1 ih
  have d0 := hide trivial
  have d1 := hide trivial
  have d2 := hide trivial
  have d3 := hide trivial
  have d4 := hide trivial
  clear hT hbad hcnt hi0 hi2 r1 r2 r3 r4 r5 r6 r7 hte hc
  go_enter Tryz.func46, Tryz.ntmps46
  go_wp2_with (first | (go_at_call 52; refine (texts_any _ _).mono ?_; rintro e w1 ⟨rfl, hb⟩; rw [unhide HT]; have HR := hide (row_below (unhide HR) hb); have HB := hide (bnext (unhide HB) hb); clear hb; (try clear c0 c1 c2 c3 c4); obtain ⟨c0, c1, c2, c3, c4⟩ := cells5s (unhide HR); (try clear d0 d1 d2 d3 d4); obtain ⟨d0, d1, d2, d3, d4⟩ := unhide HKC _ (unhide HB)) | (go_at_call 53; refine (numbers_any _ _).mono ?_; rintro e w1 ⟨rfl, hb⟩; rw [unhide HNu]; have HR := hide (row_below (unhide HR) hb); have HB := hide (bnext (unhide HB) hb); clear hb; (try clear c0 c1 c2 c3 c4); obtain ⟨c0, c1, c2, c3, c4⟩ := cells5s (unhide HR); (try clear d0 d1 d2 d3 d4); obtain ⟨d0, d1, d2, d3, d4⟩ := unhide HKC _ (unhide HB)) | (go_at_call 46; (with_reducible refine (unhide HI _ (unhide HB)).mono ?_); rintro e w1 ⟨rfl, hb⟩; have HB := hide (bnext (unhide HB) hb); clear hb))
  go_ret
  exact ⟨by rw [unhide HE]; rfl, unhide HB⟩
set_option maxRecDepth 100000 in
set_option maxHeartbeats 1000000 in
theorem show_cond (T : PT) (hc : T.k = 21) (ih : ∀ i, i < T.len → ShowSays (T.kid i)) : ShowSays T := by
  intro w i hT hbad hcnt hi0 hi2
  obtain ⟨r1, r2, r3, r4, r5, r6, r7⟩ := right_node (bad_zero hbad).1
  have hte := PT.txt_eq r1
  have HT := hide (show isText T.k = false by unfold isText; simp; omega)
  have HNu := hide (show isNum T.k = false by unfold isNum; simp; omega)
  have e1 : (T.k == 1) = false := by rw [beq_eq_false_iff_ne]; omega
  have e20 : (T.k == 20) = false := by rw [beq_eq_false_iff_ne]; omega
  have e21 : (T.k == 21) = true := by rw [beq_iff_eq]; omega
  have e22 : (T.k == 22) = false := by rw [beq_eq_false_iff_ne]; omega
  have e23 : (T.k == 23) = false := by rw [beq_eq_false_iff_ne]; omega
  have e24 : (T.k == 24) = false := by rw [beq_eq_false_iff_ne]; omega
  have e18 : (T.k == 18) = false := by rw [beq_eq_false_iff_ne]; omega
  have e19 : (T.k == 19) = false := by rw [beq_eq_false_iff_ne]; omega
  have HR := hide (at_new (w := w) (o := .cells #[.int .i64 T.k, .string T.t, .int .i64 T.n, .string T.nm, .slice T.xa T.len T.cap] 30) rfl)
  have HB := hide ((Below.refl w.heap.size w).alloc (Nat.le_refl _) (.cells #[.int .i64 T.k, .string T.t, .int .i64 T.n, .string T.nm, .slice T.xa T.len T.cap] 30))
  have c0 := hide trivial
  have c1 := hide trivial
  have c2 := hide trivial
  have c3 := hide trivial
  have c4 := hide trivial
  have hl0 : 0 < T.len := by have h6 : leastK T.k = 1 := (by unfold leastK; rw [if_neg (by omega), if_pos (by omega)]); omega
  have hl1 : T.len = 1 := by have h7 : mostK T.k = 1 := (by unfold mostK; rw [if_neg (by omega), if_pos (by omega)]); omega
  have hia := kid_first hT hl0
  have HKC := hide (fun W (h : Below w.heap.size w W) => kid_cells (PT.In.later h hT) hl0)
  have hkb := (bad_zero hbad).2 0 hl0
  have hkc := kidS_cnt hl0
  have hxs := shown_len (T := T.kid 0) 0 hkb
  have hI := fun W (h : Below w.heap.size w W) => ih 0 hl0 W 0 (PT.In.later h (hT.kids hl0)) hkb (by omega) (by omega) (by omega)
  have hE : (⟨(T.shown i).toArray⟩ : ByteArray) = ⟨((T.kid 0).shown 0).toArray⟩ ++ ⟨#[32, 46, 32]⟩ ++ T.nm := by
    rw [shown_plain i (by omega), hte]
    rw [if_neg (by omega), if_neg (by omega), if_neg (by omega), if_pos hc, hl1]
    have h2 : joinTo [] T.kidT 1 = (T.kid 0).shown 0 := by
      rw [← shown_kid 0 0 (.inr ⟨by omega, rfl⟩)]
      simp [joinTo]
    rw [h2]
    apply ByteArray.ext
    apply Array.ext'
    simp
  obtain ⟨x, hx⟩ : ∃ x, x = (⟨((T.kid 0).shown 0).toArray⟩ : ByteArray) := ⟨_, rfl⟩
  have hxz : x.size ≤ 600000000 := by
    rw [hx]
    show ((T.kid 0).shown 0).toArray.size ≤ _
    rw [List.size_toArray]; omega
  rw [← hx] at hE hI
  have hns := named_zero (bad_zero hbad).1 (by omega)
  have g1 : ¬ 9223372036854775807 < x.size + 3 := by omega
  have g2 : ¬ 9223372036854775807 < x.size + 3 + T.nm.size := by omega
  have hlp : (0 : Int) < (T.len : Int) := by omega
  have HE := hide hE
  have HI := hide hI
  clear hE hI hx hxs hkb hkc hl0 hl1 ih hns
  have d0 := hide trivial
  have d1 := hide trivial
  have d2 := hide trivial
  have d3 := hide trivial
  have d4 := hide trivial
  clear hT hbad hcnt hi0 hi2 r1 r2 r3 r4 r5 r6 r7 hte hc
  go_enter Tryz.func46, Tryz.ntmps46
  go_wp2_with (first | (go_at_call 52; refine (texts_any _ _).mono ?_; rintro e w1 ⟨rfl, hb⟩; rw [unhide HT]; have HR := hide (row_below (unhide HR) hb); have HB := hide (bnext (unhide HB) hb); clear hb; (try clear c0 c1 c2 c3 c4); obtain ⟨c0, c1, c2, c3, c4⟩ := cells5s (unhide HR); (try clear d0 d1 d2 d3 d4); obtain ⟨d0, d1, d2, d3, d4⟩ := unhide HKC _ (unhide HB)) | (go_at_call 53; refine (numbers_any _ _).mono ?_; rintro e w1 ⟨rfl, hb⟩; rw [unhide HNu]; have HR := hide (row_below (unhide HR) hb); have HB := hide (bnext (unhide HB) hb); clear hb; (try clear c0 c1 c2 c3 c4); obtain ⟨c0, c1, c2, c3, c4⟩ := cells5s (unhide HR); (try clear d0 d1 d2 d3 d4); obtain ⟨d0, d1, d2, d3, d4⟩ := unhide HKC _ (unhide HB)))
  have hA := (Below.refl w1.heap.size w1).drew
  go_region_held3 (fun w' => w'.cell? ⟨w.heap.size, 0, none⟩ = some (.int .i64 T.k) ∧ w'.cell? ⟨w.heap.size, 1, none⟩ = some (.string T.t) ∧ w'.cell? ⟨w.heap.size, 2, none⟩ = some (.int .i64 T.n) ∧ w'.cell? ⟨w.heap.size, 3, none⟩ = some (.string T.nm) ∧ w'.cell? ⟨w.heap.size, 4, none⟩ = some (.slice T.xa T.len T.cap) ∧ w'.cell? ⟨T.b, T.o, none⟩ = some (.int .i64 (T.kid 0).k) ∧ w'.cell? ⟨T.b, T.o + 1, none⟩ = some (.string (T.kid 0).t) ∧ w'.cell? ⟨T.b, T.o + 2, none⟩ = some (.int .i64 (T.kid 0).n) ∧ w'.cell? ⟨T.b, T.o + 3, none⟩ = some (.string (T.kid 0).nm) ∧ w'.cell? ⟨T.b, T.o + 4, none⟩ = some (.slice (T.kid 0).xa (T.kid 0).len (T.kid 0).cap))
    (first | go_keep | exact (let c := cells5s (row_below (unhide HR) hA); let d := unhide HKC _ (bnext (unhide HB) hA); ⟨c.1, c.2.1, c.2.2.1, c.2.2.2.1, c.2.2.2.2, d.1, d.2.1, d.2.2.1, d.2.2.2.1, d.2.2.2.2⟩))
    (first
      | (go_at_call 46; (with_reducible refine (unhide HI _ (bnext (unhide HB) hA)).mono ?_); rintro e w2 ⟨rfl, hb2⟩; have hA := bnext hA hb2))
  all_goals
    have HA := hide hA
    clear hA
    go_wp2_with fail
    go_ret
    exact ⟨by rw [unhide HE]; rfl, bnext (unhide HB) (unhide HA)⟩
set_option maxRecDepth 100000 in
set_option maxHeartbeats 1000000 in
theorem show_imm (T : PT) (hc : T.k = 22) (ih : ∀ i, i < T.len → ShowSays (T.kid i)) : ShowSays T := by
  intro w i hT hbad hcnt hi0 hi2
  obtain ⟨r1, r2, r3, r4, r5, r6, r7⟩ := right_node (bad_zero hbad).1
  have hte := PT.txt_eq r1
  have HT := hide (show isText T.k = false by unfold isText; simp; omega)
  have HNu := hide (show isNum T.k = false by unfold isNum; simp; omega)
  have e1 : (T.k == 1) = false := by rw [beq_eq_false_iff_ne]; omega
  have e20 : (T.k == 20) = false := by rw [beq_eq_false_iff_ne]; omega
  have e21 : (T.k == 21) = false := by rw [beq_eq_false_iff_ne]; omega
  have e22 : (T.k == 22) = true := by rw [beq_iff_eq]; omega
  have e23 : (T.k == 23) = false := by rw [beq_eq_false_iff_ne]; omega
  have e24 : (T.k == 24) = false := by rw [beq_eq_false_iff_ne]; omega
  have e18 : (T.k == 18) = false := by rw [beq_eq_false_iff_ne]; omega
  have e19 : (T.k == 19) = false := by rw [beq_eq_false_iff_ne]; omega
  have HR := hide (at_new (w := w) (o := .cells #[.int .i64 T.k, .string T.t, .int .i64 T.n, .string T.nm, .slice T.xa T.len T.cap] 30) rfl)
  have HB := hide ((Below.refl w.heap.size w).alloc (Nat.le_refl _) (.cells #[.int .i64 T.k, .string T.t, .int .i64 T.n, .string T.nm, .slice T.xa T.len T.cap] 30))
  have c0 := hide trivial
  have c1 := hide trivial
  have c2 := hide trivial
  have c3 := hide trivial
  have c4 := hide trivial
  have hl0 : 0 < T.len := by have h6 : leastK T.k = 1 := (by unfold leastK; rw [if_neg (by omega), if_pos (by omega)]); omega
  have hl1 : T.len = 1 := by have h7 : mostK T.k = 1 := (by unfold mostK; rw [if_neg (by omega), if_pos (by omega)]); omega
  have hia := kid_first hT hl0
  have HKC := hide (fun W (h : Below w.heap.size w W) => kid_cells (PT.In.later h hT) hl0)
  have hkb := (bad_zero hbad).2 0 hl0
  have hkc := kidS_cnt hl0
  have hxs := shown_len (T := T.kid 0) 0 hkb
  have hI := fun W (h : Below w.heap.size w W) => ih 0 hl0 W 0 (PT.In.later h (hT.kids hl0)) hkb (by omega) (by omega) (by omega)
  have hE : (⟨(T.shown i).toArray⟩ : ByteArray) = ⟨((T.kid 0).shown 0).toArray⟩ ++ ⟨#[32, 36, 32]⟩ ++ T.nm := by
    rw [shown_plain i (by omega), hte]
    rw [if_neg (by omega), if_neg (by omega), if_neg (by omega), if_neg (by omega), if_pos hc, hl1]
    have h2 : joinTo [] T.kidT 1 = (T.kid 0).shown 0 := by
      rw [← shown_kid 0 0 (.inr ⟨by omega, rfl⟩)]
      simp [joinTo]
    rw [h2]
    apply ByteArray.ext
    apply Array.ext'
    simp
  obtain ⟨x, hx⟩ : ∃ x, x = (⟨((T.kid 0).shown 0).toArray⟩ : ByteArray) := ⟨_, rfl⟩
  have hxz : x.size ≤ 600000000 := by
    rw [hx]
    show ((T.kid 0).shown 0).toArray.size ≤ _
    rw [List.size_toArray]; omega
  rw [← hx] at hE hI
  have hns := named_zero (bad_zero hbad).1 (by omega)
  have g1 : ¬ 9223372036854775807 < x.size + 3 := by omega
  have g2 : ¬ 9223372036854775807 < x.size + 3 + T.nm.size := by omega
  have hlp : (0 : Int) < (T.len : Int) := by omega
  have HE := hide hE
  have HI := hide hI
  clear hE hI hx hxs hkb hkc hl0 hl1 ih hns
  have d0 := hide trivial
  have d1 := hide trivial
  have d2 := hide trivial
  have d3 := hide trivial
  have d4 := hide trivial
  clear hT hbad hcnt hi0 hi2 r1 r2 r3 r4 r5 r6 r7 hte hc
  go_enter Tryz.func46, Tryz.ntmps46
  go_wp2_with (first | (go_at_call 52; refine (texts_any _ _).mono ?_; rintro e w1 ⟨rfl, hb⟩; rw [unhide HT]; have HR := hide (row_below (unhide HR) hb); have HB := hide (bnext (unhide HB) hb); clear hb; (try clear c0 c1 c2 c3 c4); obtain ⟨c0, c1, c2, c3, c4⟩ := cells5s (unhide HR); (try clear d0 d1 d2 d3 d4); obtain ⟨d0, d1, d2, d3, d4⟩ := unhide HKC _ (unhide HB)) | (go_at_call 53; refine (numbers_any _ _).mono ?_; rintro e w1 ⟨rfl, hb⟩; rw [unhide HNu]; have HR := hide (row_below (unhide HR) hb); have HB := hide (bnext (unhide HB) hb); clear hb; (try clear c0 c1 c2 c3 c4); obtain ⟨c0, c1, c2, c3, c4⟩ := cells5s (unhide HR); (try clear d0 d1 d2 d3 d4); obtain ⟨d0, d1, d2, d3, d4⟩ := unhide HKC _ (unhide HB)))
  have hA := (Below.refl w1.heap.size w1).drew
  go_region_held3 (fun w' => w'.cell? ⟨w.heap.size, 0, none⟩ = some (.int .i64 T.k) ∧ w'.cell? ⟨w.heap.size, 1, none⟩ = some (.string T.t) ∧ w'.cell? ⟨w.heap.size, 2, none⟩ = some (.int .i64 T.n) ∧ w'.cell? ⟨w.heap.size, 3, none⟩ = some (.string T.nm) ∧ w'.cell? ⟨w.heap.size, 4, none⟩ = some (.slice T.xa T.len T.cap) ∧ w'.cell? ⟨T.b, T.o, none⟩ = some (.int .i64 (T.kid 0).k) ∧ w'.cell? ⟨T.b, T.o + 1, none⟩ = some (.string (T.kid 0).t) ∧ w'.cell? ⟨T.b, T.o + 2, none⟩ = some (.int .i64 (T.kid 0).n) ∧ w'.cell? ⟨T.b, T.o + 3, none⟩ = some (.string (T.kid 0).nm) ∧ w'.cell? ⟨T.b, T.o + 4, none⟩ = some (.slice (T.kid 0).xa (T.kid 0).len (T.kid 0).cap))
    (first | go_keep | exact (let c := cells5s (row_below (unhide HR) hA); let d := unhide HKC _ (bnext (unhide HB) hA); ⟨c.1, c.2.1, c.2.2.1, c.2.2.2.1, c.2.2.2.2, d.1, d.2.1, d.2.2.1, d.2.2.2.1, d.2.2.2.2⟩))
    (first
      | (go_at_call 46; (with_reducible refine (unhide HI _ (bnext (unhide HB) hA)).mono ?_); rintro e w2 ⟨rfl, hb2⟩; have hA := bnext hA hb2))
  all_goals
    have HA := hide hA
    clear hA
    go_wp2_with fail
    go_ret
    exact ⟨by rw [unhide HE]; rfl, bnext (unhide HB) (unhide HA)⟩
end Go.Proofs.YtpphjddljngkmaaGreatDoor
