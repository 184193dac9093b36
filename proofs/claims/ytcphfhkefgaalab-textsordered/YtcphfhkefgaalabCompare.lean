/- What texts.Compare does, for every two texts, and what the law TextsOrdered answers: true. -/
import Derived.Test.YtcphfhkefgaalabW1
import Derived.Test.YtcphfhkefgaalabCompareLib
namespace Go.Proofs.Ytcphfhkefgaalab
open Go.RowKit

theorem cb_range : ∀ (a b : List UInt8), -1 ≤ Lib.compareBytes a b ∧ Lib.compareBytes a b ≤ 1
  | [], [] => by simp [Lib.compareBytes]
  | [], _ :: _ => by simp [Lib.compareBytes]
  | _ :: _, [] => by simp [Lib.compareBytes]
  | x :: a, y :: b => by
    unfold Lib.compareBytes
    have := cb_range a b
    split
    · omega
    · split
      · omega
      · exact this
theorem cb_neg : ∀ (a b : List UInt8), Lib.compareBytes b a = - Lib.compareBytes a b
  | [], [] => by simp [Lib.compareBytes]
  | [], _ :: _ => by simp [Lib.compareBytes]
  | _ :: _, [] => by simp [Lib.compareBytes]
  | x :: a, y :: b => by
    have := cb_neg a b
    simp only [Lib.compareBytes]
    by_cases h1 : x < y
    · have h2 : ¬ y < x := by simp [UInt8.lt_iff_toNat_lt] at *; omega
      simp [h1, h2]
    · by_cases h2 : y < x
      · simp [h1, h2]
      · simp [h1, h2, this]
theorem cb_zero : ∀ (a b : List UInt8), Lib.compareBytes a b = 0 ↔ a = b
  | [], [] => by simp [Lib.compareBytes]
  | [], _ :: _ => by simp [Lib.compareBytes]
  | _ :: _, [] => by simp [Lib.compareBytes]
  | x :: a, y :: b => by
    have := cb_zero a b
    simp only [Lib.compareBytes, List.cons.injEq]
    by_cases h1 : x < y
    · have h2 : x ≠ y := by intro e; subst e; simp at h1
      simp [h1, h2]
    · by_cases h2 : y < x
      · have h3 : x ≠ y := by intro e; subst e; simp at h2
        simp [h1, h2, h3]
      · have h3 : x = y := by
          apply UInt8.toNat_inj.1
          simp [UInt8.lt_iff_toNat_lt] at h1 h2
          omega
        simp [this, h3]
theorem cb_lt : ∀ (a b c : List UInt8), Lib.compareBytes a b < 0 → Lib.compareBytes b c < 0 → Lib.compareBytes a c < 0
  | [], [], _ => by simp [Lib.compareBytes]
  | [], _ :: _, [] => by simp [Lib.compareBytes]
  | [], _ :: _, _ :: _ => by simp [Lib.compareBytes]
  | _ :: _, [], _ => by simp [Lib.compareBytes]
  | _ :: _, _ :: _, [] => by simp [Lib.compareBytes]
  | x :: a, y :: b, z :: c => by
    have ih := cb_lt a b c
    simp only [Lib.compareBytes]
    by_cases h1 : x < y
    · by_cases h2 : y < z
      · have h3 : x < z := by simp [UInt8.lt_iff_toNat_lt] at *; omega
        simp [h3]
      · by_cases h2' : z < y
        · simp [h2, h2']
        · have h3 : x < z := by simp [UInt8.lt_iff_toNat_lt] at *; omega
          simp [h3]
    · by_cases h1' : y < x
      · simp [h1, h1']
      · by_cases h2 : y < z
        · have h3 : x < z := by simp [UInt8.lt_iff_toNat_lt] at *; omega
          simp [h3]
        · by_cases h2' : z < y
          · simp [h2, h2']
          · have h3 : ¬ x < z := by simp [UInt8.lt_iff_toNat_lt] at *; omega
            have h4 : ¬ z < x := by simp [UInt8.lt_iff_toNat_lt] at *; omega
            simp [h1, h1', h2, h2', h3, h4]
            exact ih
theorem cb_le (a b c : List UInt8) (h1 : Lib.compareBytes a b ≤ 0) (h2 : Lib.compareBytes b c ≤ 0) :
    Lib.compareBytes a c ≤ 0 ∧ (Lib.compareBytes a c < 0 ∨ Lib.compareBytes a b = 0 ∧ Lib.compareBytes b c = 0) := by
  by_cases e1 : Lib.compareBytes a b = 0
  · have := (cb_zero a b).1 e1
    subst this
    by_cases e2 : Lib.compareBytes a c = 0
    · exact ⟨by omega, .inr ⟨e1, e2⟩⟩
    · exact ⟨by omega, .inl (by omega)⟩
  · by_cases e2 : Lib.compareBytes b c = 0
    · have := (cb_zero b c).1 e2
      subst this
      exact ⟨by omega, .inl (by omega)⟩
    · have := cb_lt a b c (by omega) (by omega)
      exact ⟨by omega, .inl this⟩

/-- What Compare answers, and what is wrong. -/
def cmpV (a b : ByteArray) : Int := if anyLong [a, b] then 0 else Lib.compareBytes a.data.toList b.data.toList
def cmpE (a b : ByteArray) : Int := if anyLong [a, b] then 4 else 0

set_option maxHeartbeats 400000 in
theorem compare_any (a b : ByteArray) (w : World) (ha : a.size ≤ maxLen) (hb : b.size ≤ maxLen) :
    Calls Try.prog 11 #[.string a, .string b] w fun e w' => e = .returned (.tuple #[.int .i64 (cmpV a b), .int .i64 (cmpE a b)]) ∧ Below w.heap.size w w' := by
  by_cases hl : anyLong [a, b] = true
  · have ev : cmpV a b = 0 := by simp [cmpV, hl]
    have ee : cmpE a b = 4 := by simp [cmpE, hl]
    rw [ev, ee]
    have HE : Hid (anyLong [a, b] = true) := hl
    clear hl ev ee
    go_enter Try.func11, Try.ntmps11
    go_wp2_with (go_at_call 18; refine (tooLong_two a b _ _ ha hb (by simp) (by simp)).mono ?_; rintro e w' ⟨rfl, rfl⟩; rw [HE.out])
    go_ret2
    exact ⟨rfl, (Below.refl _ _).alloc (Nat.le_refl _) _⟩
  · have hl : anyLong [a, b] = false := by simpa using hl
    have ev : cmpV a b = Lib.compareBytes a.data.toList b.data.toList := by simp [cmpV, hl]
    have ee : cmpE a b = 0 := by simp [cmpE, hl]
    rw [ev, ee]
    have HE : Hid (anyLong [a, b] = false) := hl
    clear hl ev ee
    go_enter Try.func11, Try.ntmps11
    go_wp2_with (first | (go_at_call 18; refine (tooLong_two a b _ _ ha hb (by simp) (by simp)).mono ?_; rintro e w' ⟨rfl, rfl⟩; rw [HE.out]) | (go_at_call 19; refine (Try.strings_Compare a b _).mono ?_; rintro e w' ⟨rfl, rfl⟩))
    go_ret2
    exact ⟨rfl, (Below.refl _ _).alloc (Nat.le_refl _) _⟩

theorem cmpE_ok {a b : ByteArray} (ha : a.size ≤ 65536) (hb : b.size ≤ 65536) : cmpE a b = 0 := by
  simp [cmpE, anyLong_two]; omega
theorem cmpE_left {a b : ByteArray} (ha : ¬ a.size ≤ 65536) : cmpE a b = 4 := by
  simp [cmpE, anyLong_two]; omega
theorem cmpE_right {a b : ByteArray} (hb : ¬ b.size ≤ 65536) : cmpE a b = 4 := by
  simp [cmpE, anyLong_two]; omega
theorem cmpV_ok {a b : ByteArray} (ha : a.size ≤ 65536) (hb : b.size ≤ 65536) : cmpV a b = Lib.compareBytes a.data.toList b.data.toList := by
  have h : anyLong [a, b] = false := by simp [anyLong_two]; omega
  simp [cmpV, h]
theorem toList_eq (a : ByteArray) : a.toList = a.data.toList := by
  exact ByteArray.toList_eq a

set_option maxHeartbeats 1000000 in
theorem textsOrdered_walk (a0 : ByteArray) (a1 : ByteArray) (a2 : ByteArray) (w0 : a0.size ≤ maxLen) (w1 : a1.size ≤ maxLen) (w2 : a2.size ≤ maxLen) (w : World) :
    Calls Try.prog 4 #[.string a0, .string a1, .string a2] w fun e w' => e = .returned (.bool true) ∧ Below w.heap.size w w' := by
  by_cases h0 : a0.size ≤ 65536 <;> by_cases h1 : a1.size ≤ 65536 <;> by_cases h2 : a2.size ≤ 65536
  · have r1 := cb_range a0.data.toList a1.data.toList
    have n1 := cb_neg a0.data.toList a1.data.toList
    have z1 := cb_zero a0.data.toList a1.data.toList
    have r2 := cb_range a1.data.toList a2.data.toList
    have r3 := cb_range a0.data.toList a2.data.toList
    have t1 := cb_le a0.data.toList a1.data.toList a2.data.toList
    have E1 := cmpV_ok h0 h1
    have E2 := cmpV_ok h1 h0
    have E3 := cmpV_ok h1 h2
    have E4 := cmpV_ok h0 h2
    rw [← E1] at r1 n1 z1 t1
    rw [← E2] at n1
    rw [← E3] at r2 t1
    rw [← E4] at r3 t1
    clear E1 E2 E3 E4
    have c1 := compare_any a0 a1
    have c2 := compare_any a1 a0
    have c3 := compare_any a1 a2
    have c4 := compare_any a0 a2
    rw [cmpE_ok h0 h1] at c1
    rw [cmpE_ok h1 h0] at c2
    rw [cmpE_ok h1 h2] at c3
    rw [cmpE_ok h0 h2] at c4
    generalize cmpV a0 a1 = x at *
    generalize cmpV a1 a0 = y at *
    generalize cmpV a1 a2 = z at *
    generalize cmpV a0 a2 = u at *
    have C1 : Hid (∀ (w : World), a0.size ≤ maxLen → a1.size ≤ maxLen → Calls Try.prog 11 #[.string a0, .string a1] w fun e w' => e = .returned (.tuple #[.int .i64 x, .int .i64 0]) ∧ Below w.heap.size w w') := c1
    have C2 : Hid (∀ (w : World), a1.size ≤ maxLen → a0.size ≤ maxLen → Calls Try.prog 11 #[.string a1, .string a0] w fun e w' => e = .returned (.tuple #[.int .i64 y, .int .i64 0]) ∧ Below w.heap.size w w') := c2
    have C3 : Hid (∀ (w : World), a1.size ≤ maxLen → a2.size ≤ maxLen → Calls Try.prog 11 #[.string a1, .string a2] w fun e w' => e = .returned (.tuple #[.int .i64 z, .int .i64 0]) ∧ Below w.heap.size w w') := c3
    have C4 : Hid (∀ (w : World), a0.size ≤ maxLen → a2.size ≤ maxLen → Calls Try.prog 11 #[.string a0, .string a2] w fun e w' => e = .returned (.tuple #[.int .i64 u, .int .i64 0]) ∧ Below w.heap.size w w') := c4
    have hyx : (x != -y) = false := by rw [n1]; simp
    have hyx' : (x != wrap64 (-y)) = false := by rw [IntWalk.wrap64_in (-y) (by omega)]; exact hyx
    have hy1 : -1 ≤ y := by omega
    have hy2 : y ≤ 1 := by omega
    have hzb : ((x == 0) == (a0.toList == a1.toList)) = true := by
      rw [toList_eq, toList_eq]
      have hq : (x == 0) = (a0.data.toList == a1.data.toList) := by rw [Bool.eq_iff_iff, beq_iff_eq, beq_iff_eq]; exact z1
      rw [hq, beq_self_eq_true]
    have T1 : Hid (x ≤ 0 → z ≤ 0 → u ≤ 0 ∧ (u < 0 ∨ x = 0 ∧ z = 0)) := t1
    clear c1 c2 c3 c4 n1 z1 t1
    go_enter Try.func4, Try.ntmps4
    go_wp2_with fail
    refine (alive_any _).mono ?_
    rintro e w3 ⟨rfl, hb3⟩
    go_wp2_with fail
    refine (C1.out _ w0 w1).mono ?_
    rintro e w4 ⟨rfl, hb4⟩
    go_wp2_with fail
    refine (C2.out _ w1 w0).mono ?_
    rintro e w5 ⟨rfl, hb5⟩
    go_wp2_with fail
    refine (C3.out _ w1 w2).mono ?_
    rintro e w6 ⟨rfl, hb6⟩
    go_wp2_with fail
    refine (C4.out _ w0 w2).mono ?_
    rintro e w7 ⟨rfl, hb7⟩
    have hend := bnext (bnext (bnext (bnext hb3 hb4) hb5) hb6) hb7
    by_cases hx : x ≤ 0
    · by_cases hz : z ≤ 0
      · obtain ⟨hu, hu'⟩ := T1.out hx hz
        rcases hu' with hlt | ⟨ex, ez⟩
        · go_wp2
          go_ret
          exact ⟨rfl, hend⟩
        · have ex' : (x == 0) = true := beq_iff_eq.2 ex
          have ez' : (z == 0) = true := beq_iff_eq.2 ez
          have hab : (a0.toList == a1.toList) = true := by rw [ex', beq_iff_eq] at hzb; exact hzb.symm
          clear ex ez hzb
          go_wp2
          all_goals go_ret
          all_goals exact ⟨rfl, hend⟩
      · go_wp2
        go_ret
        exact ⟨rfl, hend⟩
    · go_wp2
      go_ret
      exact ⟨rfl, hend⟩
  all_goals
    go_enter Try.func4, Try.ntmps4
    go_wp2_with fail
    refine (alive_any _).mono ?_
    rintro e w3 ⟨rfl, hb3⟩
    go_wp2_with fail
    refine (compare_any a0 a1 _ w0 w1).mono ?_
    rintro e w4 ⟨rfl, hb4⟩
    generalize cmpV a0 a1 = x
    first | rw [cmpE_ok h0 h1] | rw [cmpE_left h0] | rw [cmpE_right h1]
    go_wp2_with fail
    refine (compare_any a1 a0 _ w1 w0).mono ?_
    rintro e w5 ⟨rfl, hb5⟩
    generalize cmpV a1 a0 = y
    first | rw [cmpE_ok h1 h0] | rw [cmpE_left h1] | rw [cmpE_right h0]
    go_wp2_with fail
    refine (compare_any a1 a2 _ w1 w2).mono ?_
    rintro e w6 ⟨rfl, hb6⟩
    generalize cmpV a1 a2 = z
    first | rw [cmpE_ok h1 h2] | rw [cmpE_left h1] | rw [cmpE_right h2]
    go_wp2_with fail
    refine (compare_any a0 a2 _ w0 w2).mono ?_
    rintro e w7 ⟨rfl, hb7⟩
    generalize cmpV a0 a2 = u
    first | rw [cmpE_ok h0 h2] | rw [cmpE_left h0] | rw [cmpE_right h2]
    go_wp2
    go_ret
    exact ⟨rfl, bnext (bnext (bnext (bnext hb3 hb4) hb5) hb6) hb7⟩

end Go.Proofs.Ytcphfhkefgaalab
