/- What standsForItself, isDigit, worth and the document's Plain do, for every byte. -/
import Derived.Test.YtgamnhmkimonnaaOutBytes
namespace Go.Proofs.Ytgamnhmkimonnaa
open Go.RowKit

/-- A byte that stands for itself; a digit by sixteens; what it counts. -/
def plainN (b : Nat) : Bool := decide (33 ≤ b ∧ b ≤ 126 ∧ b ≠ 45 ∧ b ≠ 92 ∧ b ≠ 94)
def hexN (b : Nat) : Bool := decide ((48 ≤ b ∧ b ≤ 57) ∨ (97 ≤ b ∧ b ≤ 102))
def hexVal (b : Nat) : Nat := if b ≤ 57 then b - 48 else b - 87
theorem plainN_true {b : Nat} (h : 33 ≤ b ∧ b ≤ 126 ∧ b ≠ 45 ∧ b ≠ 92 ∧ b ≠ 94) : plainN b = true := decide_eq_true h
theorem plainN_false {b : Nat} (h : ¬ (33 ≤ b ∧ b ≤ 126 ∧ b ≠ 45 ∧ b ≠ 92 ∧ b ≠ 94)) : plainN b = false := decide_eq_false h

set_option maxHeartbeats 400000 in
theorem stands_any (b : Nat) (hb : b < 256) (w : World) :
    Calls Try.prog 44 #[.int .u8 (b : Int)] w fun e w' => e = .returned (.bool (plainN b)) ∧ w' = w := by
  have hc : (33 ≤ b ∧ b ≤ 126 ∧ b ≠ 45 ∧ b ≠ 92 ∧ b ≠ 94) ∨ b < 33 ∨ 126 < b ∨ b = 45 ∨ b = 92 ∨ b = 94 := by omega
  rcases hc with ⟨h1, h2, h3, h4, h5⟩ | h | h | rfl | rfl | rfl
  · rw [plainN_true ⟨h1, h2, h3, h4, h5⟩]
    go_enter Try.func44, Try.ntmps44
    go_wp2
    go_ret
    exact ⟨ret_bool (by simp only [Bool.and_eq_true, bne_iff_ne]; omega), rfl⟩
  · rw [plainN_false (by omega)]
    go_enter Try.func44, Try.ntmps44
    go_wp2
    go_ret
    exact ⟨rfl, rfl⟩
  · rw [plainN_false (by omega)]
    have h1 : 33 ≤ b := by omega
    go_enter Try.func44, Try.ntmps44
    go_wp2
    go_ret
    exact ⟨rfl, rfl⟩
  · rw [plainN_false (by omega)]
    go_enter Try.func44, Try.ntmps44
    go_wp2
    go_ret
    exact ⟨rfl, rfl⟩
  · rw [plainN_false (by omega)]
    go_enter Try.func44, Try.ntmps44
    go_wp2
    go_ret
    exact ⟨rfl, rfl⟩
  · rw [plainN_false (by omega)]
    go_enter Try.func44, Try.ntmps44
    go_wp2
    go_ret
    exact ⟨rfl, rfl⟩

set_option maxHeartbeats 400000 in
theorem isDigit_any (b : Nat) (hb : b < 256) (w : World) :
    Calls Try.prog 45 #[.int .u8 (b : Int)] w fun e w' => e = .returned (.bool (hexN b)) ∧ w' = w := by
  have hc : (48 ≤ b ∧ b ≤ 57) ∨ (97 ≤ b ∧ b ≤ 102) ∨ b < 48 ∨ (57 < b ∧ b < 97) ∨ 102 < b := by omega
  rcases hc with ⟨h1, h2⟩ | ⟨h1, h2⟩ | h | ⟨h1, h2⟩ | h
  · rw [show hexN b = true from decide_eq_true (by omega)]
    go_enter Try.func45, Try.ntmps45
    go_wp2
    go_ret
    exact ⟨rfl, rfl⟩
  · rw [show hexN b = true from decide_eq_true (by omega)]
    have h3 : 48 ≤ b := by omega
    have h4 : 57 < b := by omega
    go_enter Try.func45, Try.ntmps45
    go_wp2
    go_ret
    exact ⟨ret_bool (by simp only [Bool.or_eq_true, decide_eq_true_eq]; omega), rfl⟩
  · rw [show hexN b = false from decide_eq_false (by omega)]
    have h3 : b < 97 := by omega
    go_enter Try.func45, Try.ntmps45
    go_wp2
    go_ret
    exact ⟨rfl, rfl⟩
  · rw [show hexN b = false from decide_eq_false (by omega)]
    have h3 : 48 ≤ b := by omega
    go_enter Try.func45, Try.ntmps45
    go_wp2
    go_ret
    exact ⟨ret_bool (by simp only [decide_eq_false_iff_not]; omega), rfl⟩
  · rw [show hexN b = false from decide_eq_false (by omega)]
    have h3 : 48 ≤ b := by omega
    have h4 : 57 < b := by omega
    have h5 : 97 ≤ b := by omega
    go_enter Try.func45, Try.ntmps45
    go_wp2
    go_ret
    exact ⟨ret_bool (by simp only [Bool.or_eq_false_iff, decide_eq_false_iff_not]; omega), rfl⟩

set_option maxHeartbeats 400000 in
theorem worth_any (b : Nat) (hb : b < 256) (hx : hexN b = true) (w : World) :
    Calls Try.prog 46 #[.int .u8 (b : Int)] w fun e w' => e = .returned (.int .u8 (hexVal b : Int)) ∧ w' = w := by
  have hc := of_decide_eq_true hx
  clear hx
  by_cases h : b ≤ 57
  · have hv := hide (show ((hexVal b : Nat) : Int) = (b : Int) - 48 by unfold hexVal; rw [if_pos h]; omega)
    rw [unhide hv]
    have h1 : 48 ≤ b := by omega
    clear hc
    go_enter Try.func46, Try.ntmps46
    go_wp2
    go_ret
    exact ⟨rfl, rfl⟩
  · have hv := hide (show ((hexVal b : Nat) : Int) = (b : Int) - 97 + 10 by unfold hexVal; rw [if_neg h]; omega)
    rw [unhide hv]
    have h1 : 97 ≤ b := by omega
    have h2 : b ≤ 102 := by omega
    have h3 : 57 < b := by omega
    clear hc
    go_enter Try.func46, Try.ntmps46
    go_wp2
    go_ret
    exact ⟨rfl, rfl⟩

set_option maxHeartbeats 400000 in
theorem refPlain_any (b : Nat) (hb : b < 256) (w : World) :
    Calls Try.prog 41 #[.int .u8 (b : Int)] w fun e w' => e = .returned (.bool (plainN b)) ∧ w' = w := by
  have hc : (33 ≤ b ∧ b ≤ 126 ∧ b ≠ 45 ∧ b ≠ 92 ∧ b ≠ 94) ∨ b < 33 ∨ 126 < b ∨ b = 45 ∨ b = 92 ∨ b = 94 := by omega
  rcases hc with ⟨h1, h2, h3, h4, h5⟩ | h | h | rfl | rfl | rfl
  · rw [plainN_true ⟨h1, h2, h3, h4, h5⟩]
    go_enter Try.func41, Try.ntmps41
    go_wp2
    go_ret
    exact ⟨ret_bool (by simp only [Bool.and_eq_true, bne_iff_ne]; omega), rfl⟩
  · rw [plainN_false (by omega)]
    go_enter Try.func41, Try.ntmps41
    go_wp2
    go_ret
    exact ⟨rfl, rfl⟩
  · rw [plainN_false (by omega)]
    have h1 : 33 ≤ b := by omega
    go_enter Try.func41, Try.ntmps41
    go_wp2
    go_ret
    exact ⟨rfl, rfl⟩
  · rw [plainN_false (by omega)]
    go_enter Try.func41, Try.ntmps41
    go_wp2
    go_ret
    exact ⟨rfl, rfl⟩
  · rw [plainN_false (by omega)]
    go_enter Try.func41, Try.ntmps41
    go_wp2
    go_ret
    exact ⟨rfl, rfl⟩
  · rw [plainN_false (by omega)]
    go_enter Try.func41, Try.ntmps41
    go_wp2
    go_ret
    exact ⟨rfl, rfl⟩

end Go.Proofs.Ytgamnhmkimonnaa
