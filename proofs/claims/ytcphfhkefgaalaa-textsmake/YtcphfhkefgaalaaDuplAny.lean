/- What texts.Dupl answers, in one contract for every text and number. -/
import Derived.Test.YtcphfhkefgaalaaDupl
namespace Go.Proofs.Ytcphfhkefgaalaa
open Go.RowKit

/-- What Dupl answers, and what is wrong. -/
def duplE (t : ByteArray) (n : Int) : Int := if 65536 < t.size then 4 else if n < 0 then 3 else if 65536 < n * (t.size : Int) then 4 else 0
def duplV (t : ByteArray) (n : Int) : ByteArray := if duplE t n = 0 then rep t n.toNat else ⟨#[]⟩
theorem dupl_any (t : ByteArray) (n : Int) (w : World) (hs : t.size ≤ maxLen) (hn2 : n ≤ 9223372036854775807) :
    Calls Try.prog 7 #[.string t, .int .i64 n] w fun e w' => e = .returned (.tuple #[.string (duplV t n), .int .i64 (duplE t n)]) ∧ Below w.heap.size w w' := by
  by_cases h1 : 65536 < t.size
  · have e : duplE t n = 4 := by simp [duplE, h1]
    have v : duplV t n = ⟨#[]⟩ := by simp [duplV, e]
    rw [v, e]; exact dupl_much t n w hs h1
  · by_cases h2 : n < 0
    · have e : duplE t n = 3 := by simp [duplE, h1, h2]
      have v : duplV t n = ⟨#[]⟩ := by simp [duplV, e]
      rw [v, e]; exact dupl_range t n w (by omega) h2
    · by_cases h3 : 65536 < n * (t.size : Int)
      · have e : duplE t n = 4 := by simp [duplE, h1, h2, h3]
        have v : duplV t n = ⟨#[]⟩ := by simp [duplV, e]
        rw [v, e]; exact dupl_over t n w (by omega) (by omega) h3
      · have e : duplE t n = 0 := by simp [duplE, h1, h2, h3]
        have v : duplV t n = rep t n.toNat := by simp [duplV, e]
        rw [v, e]; exact dupl_ok t n w (by omega) (by omega) hn2 (by omega)
theorem duplE_zero (t : ByteArray) (n : Int) (h : duplE t n = 0) : t.size ≤ 65536 ∧ 0 ≤ n ∧ n * (t.size : Int) ≤ 65536 := by
  unfold duplE at h
  split at h
  · simp at h
  · split at h
    · simp at h
    · split at h
      · simp at h
      · exact ⟨by omega, by omega, by omega⟩
end Go.Proofs.Ytcphfhkefgaalaa
