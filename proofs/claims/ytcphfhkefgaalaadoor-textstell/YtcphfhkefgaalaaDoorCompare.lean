/- What texts.Compare does, for every two texts. -/
import Derived.Test.YtcphfhkefgaalaaDoorLong
import Derived.Test.YtcphfhkefgaalaaDoorCompareLib
namespace Go.Proofs.YtcphfhkefgaalaaDoor
open Go.RowKit

theorem cb_range : ∀ (a b : List UInt8), -1 ≤ Lib.compareBytes a b ∧ Lib.compareBytes a b ≤ 1
  | [], [] => by simp [Lib.compareBytes]
  | [], _ :: _ => by simp [Lib.compareBytes]
  | _ :: _, [] => by simp [Lib.compareBytes]
  | x :: a, y :: b => by
    unfold Lib.compareBytes
    have := cb_range a b
    split
    · omega
    · split
      · omega
      · exact this
theorem cb_neg : ∀ (a b : List UInt8), Lib.compareBytes b a = - Lib.compareBytes a b
  | [], [] => by simp [Lib.compareBytes]
  | [], _ :: _ => by simp [Lib.compareBytes]
  | _ :: _, [] => by simp [Lib.compareBytes]
  | x :: a, y :: b => by
    have := cb_neg a b
    simp only [Lib.compareBytes]
    by_cases h1 : x < y
    · have h2 : ¬ y < x := by simp [UInt8.lt_iff_toNat_lt] at *; omega
      simp [h1, h2]
    · by_cases h2 : y < x
      · simp [h1, h2]
      · simp [h1, h2, this]
theorem cb_zero : ∀ (a b : List UInt8), Lib.compareBytes a b = 0 ↔ a = b
  | [], [] => by simp [Lib.compareBytes]
  | [], _ :: _ => by simp [Lib.compareBytes]
  | _ :: _, [] => by simp [Lib.compareBytes]
  | x :: a, y :: b => by
    have := cb_zero a b
    simp only [Lib.compareBytes, List.cons.injEq]
    by_cases h1 : x < y
    · have h2 : x ≠ y := by intro e; subst e; simp at h1
      simp [h1, h2]
    · by_cases h2 : y < x
      · have h3 : x ≠ y := by intro e; subst e; simp at h2
        simp [h1, h2, h3]
      · have h3 : x = y := by
          apply UInt8.toNat_inj.1
          simp [UInt8.lt_iff_toNat_lt] at h1 h2
          omega
        simp [this, h3]
theorem cb_lt : ∀ (a b c : List UInt8), Lib.compareBytes a b < 0 → Lib.compareBytes b c < 0 → Lib.compareBytes a c < 0
  | [], [], _ => by simp [Lib.compareBytes]
  | [], _ :: _, [] => by simp [Lib.compareBytes]
  | [], _ :: _, _ :: _ => by simp [Lib.compareBytes]
  | _ :: _, [], _ => by simp [Lib.compareBytes]
  | _ :: _, _ :: _, [] => by simp [Lib.compareBytes]
  | x :: a, y :: b, z :: c => by
    have ih := cb_lt a b c
    simp only [Lib.compareBytes]
    by_cases h1 : x < y
    · by_cases h2 : y < z
      · have h3 : x < z := by simp [UInt8.lt_iff_toNat_lt] at *; omega
        simp [h3]
      · by_cases h2' : z < y
        · simp [h2, h2']
        · have h3 : x < z := by simp [UInt8.lt_iff_toNat_lt] at *; omega
          simp [h3]
    · by_cases h1' : y < x
      · simp [h1, h1']
      · by_cases h2 : y < z
        · have h3 : x < z := by simp [UInt8.lt_iff_toNat_lt] at *; omega
          simp [h3]
        · by_cases h2' : z < y
          · simp [h2, h2']
          · have h3 : ¬ x < z := by simp [UInt8.lt_iff_toNat_lt] at *; omega
            have h4 : ¬ z < x := by simp [UInt8.lt_iff_toNat_lt] at *; omega
            simp [h1, h1', h2, h2', h3, h4]
            exact ih
theorem cb_le (a b c : List UInt8) (h1 : Lib.compareBytes a b ≤ 0) (h2 : Lib.compareBytes b c ≤ 0) :
    Lib.compareBytes a c ≤ 0 ∧ (Lib.compareBytes a c < 0 ∨ Lib.compareBytes a b = 0 ∧ Lib.compareBytes b c = 0) := by
  by_cases e1 : Lib.compareBytes a b = 0
  · have := (cb_zero a b).1 e1
    subst this
    by_cases e2 : Lib.compareBytes a c = 0
    · exact ⟨by omega, .inr ⟨e1, e2⟩⟩
    · exact ⟨by omega, .inl (by omega)⟩
  · by_cases e2 : Lib.compareBytes b c = 0
    · have := (cb_zero b c).1 e2
      subst this
      exact ⟨by omega, .inl (by omega)⟩
    · have := cb_lt a b c (by omega) (by omega)
      exact ⟨by omega, .inl this⟩

/-- What Compare answers, and what is wrong. -/
def cmpV (a b : ByteArray) : Int := if anyLong [a, b] then 0 else Lib.compareBytes a.data.toList b.data.toList
def cmpE (a b : ByteArray) : Int := if anyLong [a, b] then 4 else 0

set_option maxHeartbeats 400000 in
theorem compare_any (a b : ByteArray) (w : World) (ha : a.size ≤ maxLen) (hb : b.size ≤ maxLen) :
    Calls Tryd.prog 11 #[.string a, .string b] w fun e w' => e = .returned (.tuple #[.int .i64 (cmpV a b), .int .i64 (cmpE a b)]) ∧ Below w.heap.size w w' := by
  by_cases hl : anyLong [a, b] = true
  · have ev : cmpV a b = 0 := by simp [cmpV, hl]
    have ee : cmpE a b = 4 := by simp [cmpE, hl]
    rw [ev, ee]
    have HE : Hid (anyLong [a, b] = true) := hl
    clear hl ev ee
    go_enter Tryd.func11, Tryd.ntmps11
    go_wp2_with (go_at_call 20; refine (tooLong_two a b _ _ ha hb (by simp) (by simp)).mono ?_; rintro e w' ⟨rfl, rfl⟩; rw [HE.out])
    go_ret2
    exact ⟨rfl, (Below.refl _ _).alloc (Nat.le_refl _) _⟩
  · have hl : anyLong [a, b] = false := by simpa using hl
    have ev : cmpV a b = Lib.compareBytes a.data.toList b.data.toList := by simp [cmpV, hl]
    have ee : cmpE a b = 0 := by simp [cmpE, hl]
    rw [ev, ee]
    have HE : Hid (anyLong [a, b] = false) := hl
    clear hl ev ee
    go_enter Tryd.func11, Tryd.ntmps11
    go_wp2_with (first | (go_at_call 20; refine (tooLong_two a b _ _ ha hb (by simp) (by simp)).mono ?_; rintro e w' ⟨rfl, rfl⟩; rw [HE.out]) | (go_at_call 24; refine (Tryd.strings_Compare a b _).mono ?_; rintro e w' ⟨rfl, rfl⟩))
    go_ret2
    exact ⟨rfl, (Below.refl _ _).alloc (Nat.le_refl _) _⟩

theorem cmpE_ok {a b : ByteArray} (ha : a.size ≤ 65536) (hb : b.size ≤ 65536) : cmpE a b = 0 := by
  simp [cmpE, anyLong_two]; omega
theorem cmpE_left {a b : ByteArray} (ha : ¬ a.size ≤ 65536) : cmpE a b = 4 := by
  simp [cmpE, anyLong_two]; omega
theorem cmpE_right {a b : ByteArray} (hb : ¬ b.size ≤ 65536) : cmpE a b = 4 := by
  simp [cmpE, anyLong_two]; omega
theorem cmpV_ok {a b : ByteArray} (ha : a.size ≤ 65536) (hb : b.size ≤ 65536) : cmpV a b = Lib.compareBytes a.data.toList b.data.toList := by
  have h : anyLong [a, b] = false := by simp [anyLong_two]; omega
  simp [cmpV, h]
theorem toList_eq (a : ByteArray) : a.toList = a.data.toList := by
  exact ByteArray.toList_eq a

end Go.Proofs.YtcphfhkefgaalaaDoor
