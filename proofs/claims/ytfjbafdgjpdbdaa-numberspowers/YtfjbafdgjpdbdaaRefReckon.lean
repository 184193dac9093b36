/- What the document's own Add, Sub, Mul, Div and Rem answer, for every two numbers. -/
import Derived.Test.YtfjbafdgjpdbdaaBigQuo
namespace Go.Proofs.Ytfjbafdgjpdbdaa
open Go.RowKit

/-- Two numbers of 64 bits laid behind a block of the call's own. -/
theorem abs_len {n : Int} (h : in64 n) : (wordsOf n.natAbs).length ≤ 2 := wordsOf_len_two (by unfold in64 at h; omega)
theorem in64_abs {n : Int} (h : in64 n) : n.natAbs < 18446744073709551616 := by unfold in64 at h; omega
theorem in64_add_len {m n : Int} (h : in64 m) (h' : in64 n) : (wordsOf (m + n).natAbs).length ≤ 3 := wordsOf_length_le _ 3 (by unfold in64 at *; omega)
theorem in64_sub_len {m n : Int} (h : in64 m) (h' : in64 n) : (wordsOf (m - n).natAbs).length ≤ 3 := wordsOf_length_le _ 3 (by unfold in64 at *; omega)
theorem in64_mul_len {m n : Int} (h : in64 m) (h' : in64 n) : (wordsOf (m * n).natAbs).length ≤ 20000000 := by
  rw [Int.natAbs_mul]
  exact prod_len _ _ (Nat.le_trans (abs_len h) (by decide)) (Nat.le_trans (abs_len h') (by decide))
theorem tdiv_len {m : Int} (n : Int) (h : in64 m) : (wordsOf (m.tdiv n).natAbs).length ≤ 2 := by
  rw [show (m.tdiv n).natAbs = m.natAbs / n.natAbs from Int.natAbs_tdiv m n]; exact div_len _ (in64_abs h)
theorem tmod_len {m : Int} (n : Int) (h : in64 m) : (wordsOf (m.tmod n).natAbs).length ≤ 2 := by
  rw [Int.natAbs_tmod]; exact mod_len _ (in64_abs h)

set_option maxHeartbeats 1000000 in
theorem refAdd_any (m n : Int) (w : World) (hm : in64 m) (hn : in64 n) :
    Calls Try.prog 6 #[.int .i64 m, .int .i64 n] w fun e w' => e = .returned (pairOf (within (m + n))) ∧ Below w.heap.size w w' := by
  have HZ := hide (fresh_int w).block
  have hb0 : Below w.heap.size w (w.alloc (.cells #[.bool false, .slice none 0 0] 31)) := (Below.refl _ _).alloc (Nat.le_refl _) _
  have hs0 : (w.alloc (.cells #[.bool false, .slice none 0 0] 31)).heap.size = w.heap.size + 1 := by simp
  have B1 := hide (refBig_any m (w.alloc (.cells #[.bool false, .slice none 0 0] 31)) hm)
  have B2 := fun w => hide (refBig_any n w hn)
  have l1 := abs_len hm
  have l2 := abs_len hn
  have l3 := in64_add_len hm hn
  rw [hs0] at B1
  go_enter Try.func6, Try.ntmps6
  go_wp2_with fail
  refine (unhide B1).mono ?_
  rintro e w1 ⟨rfl, hi1, hb1⟩
  have HB1 := hide (show Below (w.alloc (.cells #[.bool false, .slice none 0 0] 31)).heap.size (w.alloc (.cells #[.bool false, .slice none 0 0] 31)) w1 by rw [hs0]; exact hb1)
  have hz1 := (unhide HZ).below (unhide HB1)
  have hbw1 := bnext hb0 (unhide HB1)
  have hlt1 := hi1.block.lt
  clear hb1 HB1 HZ hb0 B1
  go_wp2_with fail
  refine (unhide (B2 _)).mono ?_
  rintro e w2 ⟨rfl, hi2, hb2⟩
  have hz2 := hz1.below hb2
  have hj1 := hi1.below hb2
  have hbw2 := bnext hbw1 hb2
  have C := hide (iadd_fresh w.heap.size (w.heap.size + 1) w1.heap.size m n w2 hz2 (by omega) (by omega) hj1 hi2 (by omega) (by omega))
  generalize w1.heap.size = k at *
  clear hz1 hi1 hb2 hz2 hj1 hi2 B2 hs0 hlt1
  go_wp2_with fail
  refine (unhide C).mono ?_
  rintro e w3 ⟨rfl, hi3, hb3⟩
  have W := hide (refWithin_any w.heap.size (m + n) w3 hi3 (by omega))
  have hbw3 := hbw2.trans (hb3.belowz (Nat.le_refl _) hbw2.size)
  clear hi3 hb3 hbw2 hbw1 C
  go_wp2_with fail
  refine (unhide W).mono ?_
  rintro e w3 ⟨rfl, rfl⟩
  go_wp2
  go_ret2
  exact ⟨rfl, hbw3⟩

set_option maxHeartbeats 1000000 in
theorem refSub_any (m n : Int) (w : World) (hm : in64 m) (hn : in64 n) :
    Calls Try.prog 8 #[.int .i64 m, .int .i64 n] w fun e w' => e = .returned (pairOf (within (m - n))) ∧ Below w.heap.size w w' := by
  have HZ := hide (fresh_int w).block
  have hb0 : Below w.heap.size w (w.alloc (.cells #[.bool false, .slice none 0 0] 31)) := (Below.refl _ _).alloc (Nat.le_refl _) _
  have hs0 : (w.alloc (.cells #[.bool false, .slice none 0 0] 31)).heap.size = w.heap.size + 1 := by simp
  have B1 := hide (refBig_any m (w.alloc (.cells #[.bool false, .slice none 0 0] 31)) hm)
  have B2 := fun w => hide (refBig_any n w hn)
  have l1 := abs_len hm
  have l2 := abs_len hn
  have l3 := in64_sub_len hm hn
  rw [hs0] at B1
  go_enter Try.func8, Try.ntmps8
  go_wp2_with fail
  refine (unhide B1).mono ?_
  rintro e w1 ⟨rfl, hi1, hb1⟩
  have HB1 := hide (show Below (w.alloc (.cells #[.bool false, .slice none 0 0] 31)).heap.size (w.alloc (.cells #[.bool false, .slice none 0 0] 31)) w1 by rw [hs0]; exact hb1)
  have hz1 := (unhide HZ).below (unhide HB1)
  have hbw1 := bnext hb0 (unhide HB1)
  have hlt1 := hi1.block.lt
  clear hb1 HB1 HZ hb0 B1
  go_wp2_with fail
  refine (unhide (B2 _)).mono ?_
  rintro e w2 ⟨rfl, hi2, hb2⟩
  have hz2 := hz1.below hb2
  have hj1 := hi1.below hb2
  have hbw2 := bnext hbw1 hb2
  have C := hide (isub_fresh w.heap.size (w.heap.size + 1) w1.heap.size m n w2 hz2 (by omega) (by omega) hj1 hi2 (by omega) (by omega))
  generalize w1.heap.size = k at *
  clear hz1 hi1 hb2 hz2 hj1 hi2 B2 hs0 hlt1
  go_wp2_with fail
  refine (unhide C).mono ?_
  rintro e w3 ⟨rfl, hi3, hb3⟩
  have W := hide (refWithin_any w.heap.size (m - n) w3 hi3 (by omega))
  have hbw3 := hbw2.trans (hb3.belowz (Nat.le_refl _) hbw2.size)
  clear hi3 hb3 hbw2 hbw1 C
  go_wp2_with fail
  refine (unhide W).mono ?_
  rintro e w3 ⟨rfl, rfl⟩
  go_wp2
  go_ret2
  exact ⟨rfl, hbw3⟩

set_option maxHeartbeats 1000000 in
theorem refMul_any (m n : Int) (w : World) (hm : in64 m) (hn : in64 n) :
    Calls Try.prog 10 #[.int .i64 m, .int .i64 n] w fun e w' => e = .returned (pairOf (within (m * n))) ∧ Below w.heap.size w w' := by
  have HZ := hide (fresh_int w).block
  have hb0 : Below w.heap.size w (w.alloc (.cells #[.bool false, .slice none 0 0] 31)) := (Below.refl _ _).alloc (Nat.le_refl _) _
  have hs0 : (w.alloc (.cells #[.bool false, .slice none 0 0] 31)).heap.size = w.heap.size + 1 := by simp
  have B1 := hide (refBig_any m (w.alloc (.cells #[.bool false, .slice none 0 0] 31)) hm)
  have B2 := fun w => hide (refBig_any n w hn)
  have l1 := abs_len hm
  have l2 := abs_len hn
  have l3 := in64_mul_len hm hn
  rw [hs0] at B1
  go_enter Try.func10, Try.ntmps10
  go_wp2_with fail
  refine (unhide B1).mono ?_
  rintro e w1 ⟨rfl, hi1, hb1⟩
  have HB1 := hide (show Below (w.alloc (.cells #[.bool false, .slice none 0 0] 31)).heap.size (w.alloc (.cells #[.bool false, .slice none 0 0] 31)) w1 by rw [hs0]; exact hb1)
  have hz1 := (unhide HZ).below (unhide HB1)
  have hbw1 := bnext hb0 (unhide HB1)
  have hlt1 := hi1.block.lt
  clear hb1 HB1 HZ hb0 B1
  go_wp2_with fail
  refine (unhide (B2 _)).mono ?_
  rintro e w2 ⟨rfl, hi2, hb2⟩
  have hz2 := hz1.below hb2
  have hj1 := hi1.below hb2
  have hbw2 := bnext hbw1 hb2
  have C := hide (imul_fresh w.heap.size (w.heap.size + 1) w1.heap.size m n w2 hz2 (by omega) (by omega) hj1 hi2 (by omega) (by omega))
  generalize w1.heap.size = k at *
  clear hz1 hi1 hb2 hz2 hj1 hi2 B2 hs0 hlt1
  go_wp2_with fail
  refine (unhide C).mono ?_
  rintro e w3 ⟨rfl, hi3, hb3⟩
  have W := hide (refWithin_any w.heap.size (m * n) w3 hi3 (by omega))
  have hbw3 := hbw2.trans (hb3.belowz (Nat.le_refl _) hbw2.size)
  clear hi3 hb3 hbw2 hbw1 C
  go_wp2_with fail
  refine (unhide W).mono ?_
  rintro e w3 ⟨rfl, rfl⟩
  go_wp2
  go_ret2
  exact ⟨rfl, hbw3⟩

set_option maxHeartbeats 1000000 in
theorem refDiv_some (m n : Int) (w : World) (hm : in64 m) (hn : in64 n) (h0 : n ≠ 0) :
    Calls Try.prog 12 #[.int .i64 m, .int .i64 n] w fun e w' => e = .returned (pairOf (within (m.tdiv n))) ∧ Below w.heap.size w w' := by
  have HZ := hide (fresh_int w).block
  have hb0 : Below w.heap.size w (w.alloc (.cells #[.bool false, .slice none 0 0] 31)) := (Below.refl _ _).alloc (Nat.le_refl _) _
  have hs0 : (w.alloc (.cells #[.bool false, .slice none 0 0] 31)).heap.size = w.heap.size + 1 := by simp
  have B1 := hide (refBig_any m (w.alloc (.cells #[.bool false, .slice none 0 0] 31)) hm)
  have B2 := fun w => hide (refBig_any n w hn)
  have l1 := abs_len hm
  have l2 := abs_len hn
  have l3 := tdiv_len n hm
  rw [hs0] at B1
  have d0 : (n == 0) = false := by simp [h0]
  go_enter Try.func12, Try.ntmps12
  go_wp2_with fail
  refine (unhide B1).mono ?_
  rintro e w1 ⟨rfl, hi1, hb1⟩
  have HB1 := hide (show Below (w.alloc (.cells #[.bool false, .slice none 0 0] 31)).heap.size (w.alloc (.cells #[.bool false, .slice none 0 0] 31)) w1 by rw [hs0]; exact hb1)
  have hz1 := (unhide HZ).below (unhide HB1)
  have hbw1 := bnext hb0 (unhide HB1)
  have hlt1 := hi1.block.lt
  clear hb1 HB1 HZ hb0 B1
  go_wp2_with fail
  refine (unhide (B2 _)).mono ?_
  rintro e w2 ⟨rfl, hi2, hb2⟩
  have hz2 := hz1.below hb2
  have hj1 := hi1.below hb2
  have hbw2 := bnext hbw1 hb2
  have C := hide (quo_fresh w.heap.size (w.heap.size + 1) w1.heap.size m n w2 hz2 hj1 hi2 (in64_abs hm) (in64_abs hn) h0)
  generalize w1.heap.size = k at *
  clear hz1 hi1 hb2 hz2 hj1 hi2 B2 hs0 hlt1
  go_wp2_with fail
  refine (unhide C).mono ?_
  rintro e w3 ⟨rfl, hi3, hb3⟩
  have W := hide (refWithin_any w.heap.size (m.tdiv n) w3 hi3 (by omega))
  have hbw3 := hbw2.trans (hb3.belowz (Nat.le_refl _) hbw2.size)
  clear hi3 hb3 hbw2 hbw1 C
  go_wp2_with fail
  refine (unhide W).mono ?_
  rintro e w3 ⟨rfl, rfl⟩
  go_wp2
  go_ret2
  exact ⟨rfl, hbw3⟩

set_option maxHeartbeats 400000 in
theorem refDiv_nought (m : Int) (w : World) :
    Calls Try.prog 12 #[.int .i64 m, .int .i64 0] w fun e w' => e = .returned (pairOf (0, 6)) ∧ Below w.heap.size w w' := by
  go_enter Try.func12, Try.ntmps12
  go_wp2
  go_ret2
  exact ⟨rfl, Below.refl _ _⟩

set_option maxHeartbeats 1000000 in
theorem refRem_some (m n : Int) (w : World) (hm : in64 m) (hn : in64 n) (h0 : n ≠ 0) :
    Calls Try.prog 14 #[.int .i64 m, .int .i64 n] w fun e w' => e = .returned (pairOf (within (m.tmod n))) ∧ Below w.heap.size w w' := by
  have HZ := hide (fresh_int w).block
  have hb0 : Below w.heap.size w (w.alloc (.cells #[.bool false, .slice none 0 0] 31)) := (Below.refl _ _).alloc (Nat.le_refl _) _
  have hs0 : (w.alloc (.cells #[.bool false, .slice none 0 0] 31)).heap.size = w.heap.size + 1 := by simp
  have B1 := hide (refBig_any m (w.alloc (.cells #[.bool false, .slice none 0 0] 31)) hm)
  have B2 := fun w => hide (refBig_any n w hn)
  have l1 := abs_len hm
  have l2 := abs_len hn
  have l3 := tmod_len n hm
  rw [hs0] at B1
  have d0 : (n == 0) = false := by simp [h0]
  go_enter Try.func14, Try.ntmps14
  go_wp2_with fail
  refine (unhide B1).mono ?_
  rintro e w1 ⟨rfl, hi1, hb1⟩
  have HB1 := hide (show Below (w.alloc (.cells #[.bool false, .slice none 0 0] 31)).heap.size (w.alloc (.cells #[.bool false, .slice none 0 0] 31)) w1 by rw [hs0]; exact hb1)
  have hz1 := (unhide HZ).below (unhide HB1)
  have hbw1 := bnext hb0 (unhide HB1)
  have hlt1 := hi1.block.lt
  clear hb1 HB1 HZ hb0 B1
  go_wp2_with fail
  refine (unhide (B2 _)).mono ?_
  rintro e w2 ⟨rfl, hi2, hb2⟩
  have hz2 := hz1.below hb2
  have hj1 := hi1.below hb2
  have hbw2 := bnext hbw1 hb2
  have C := hide (rem_fresh w.heap.size (w.heap.size + 1) w1.heap.size m n w2 hz2 hj1 hi2 (in64_abs hm) (in64_abs hn) h0)
  generalize w1.heap.size = k at *
  clear hz1 hi1 hb2 hz2 hj1 hi2 B2 hs0 hlt1
  go_wp2_with fail
  refine (unhide C).mono ?_
  rintro e w3 ⟨rfl, hi3, hb3⟩
  have W := hide (refWithin_any w.heap.size (m.tmod n) w3 hi3 (by omega))
  have hbw3 := hbw2.trans (hb3.belowz (Nat.le_refl _) hbw2.size)
  clear hi3 hb3 hbw2 hbw1 C
  go_wp2_with fail
  refine (unhide W).mono ?_
  rintro e w3 ⟨rfl, rfl⟩
  go_wp2
  go_ret2
  exact ⟨rfl, hbw3⟩

set_option maxHeartbeats 400000 in
theorem refRem_nought (m : Int) (w : World) :
    Calls Try.prog 14 #[.int .i64 m, .int .i64 0] w fun e w' => e = .returned (pairOf (0, 6)) ∧ Below w.heap.size w w' := by
  go_enter Try.func14, Try.ntmps14
  go_wp2
  go_ret2
  exact ⟨rfl, Below.refl _ _⟩

end Go.Proofs.Ytfjbafdgjpdbdaa
