/- What pats.Named and the document's Named answer, for every text of at most a million bytes. -/
import Derived.Test.YtimbfelbalfmiaaDoorPatBase
import Derived.Laws.IdiomStrings
namespace Go.Proofs.YtimbfelbalfmiaaDoor
open Go.RowKit

theorem isEmpty_true (t : ByteArray) (h : t.size = 0) : t.toList.isEmpty = true := by
  rw [ByteArray.toList_eq, List.isEmpty_iff]; apply List.eq_nil_of_length_eq_zero; simpa using h
theorem isEmpty_false (t : ByteArray) (h : t.size ≠ 0) : t.toList.isEmpty = false := by
  rw [ByteArray.toList_eq]
  apply Bool.eq_false_iff.2
  intro e
  rw [List.isEmpty_iff] at e
  apply h
  have := congrArg List.length e
  simpa using this
theorem wordUp_step (s : ByteArray) (i : Nat) : wordUp s (i + 1) = (wordUp s i && (letterN (bat s i) || digitN (bat s i))) := rfl
theorem wordUp_stays (s : ByteArray) {i n : Nat} (h : i ≤ n) (hf : wordUp s i = false) : wordUp s n = false := by
  induction n with
  | zero => rw [← hf]; congr 1; omega
  | succ n ih =>
    rcases Nat.lt_or_ge i (n + 1) with h1 | h1
    · rw [wordUp_step, ih (by omega)]; rfl
    · rw [← hf]; congr 1; omega

theorem named_loop (s : ByteArray) (h : s.size ≤ 16) (h1 : 1 ≤ s.size) (hw : letterN (bat s 0) = true) (hu : wordUp s s.size = true) : named s = true := by
  rw [named_eq, hw, hu]; simp [h, h1]
theorem named_not (s : ByteArray) (k : Nat) (hk : k < s.size) (hl : letterN (bat s k) = false) (hd : k = 0 ∨ digitN (bat s k) = false) : named s = false := by
  rw [named_eq]
  rcases hd with rfl | hd
  · rw [hl]; simp
  · rw [wordUp_stays s (show k + 1 ≤ s.size by omega) (by rw [wordUp_step, hl, hd]; simp)]; simp

end Go.Proofs.YtimbfelbalfmiaaDoor
