/- Lines of a program that are read, plain: over their tokens. What is written is read: words, names, texts in quotes, numbers. Lines that are written are cut into tokens: pieces of a line, plain. What a right node has: plain facts. -/
import Derived.Test.YtpphjddljngkmaaGreatDoorPatWrongP
import Derived.Test.YtpphjddljngkmaaGreatDoorPrintRows4M
import Derived.Test.YtpphjddljngkmaaGreatDoorStBM
import Derived.Test.YtpphjddljngkmaaGreatDoorPatBelowM
import Derived.Maps.AppendAt
namespace Go.Proofs.YtpphjddljngkmaaGreatDoor
open Go.RowKit

def sgn (b : UInt8) : ByteArray := ⟨#[b]⟩
def tDEF : ByteArray := ⟨#[68, 69, 70, 73, 78, 69]⟩
def tIs : ByteArray := ⟨#[58, 61]⟩
end Go.Proofs.YtpphjddljngkmaaGreatDoor

namespace Go.Proofs.YtpphjddljngkmaaGreatDoor
open Go.RowKit

theorem named_word {nm : ByteArray} (h : named nm = true) : (∀ x ∈ nm.data.toList, wordN x.toNat = true) ∧ nm.size ≤ 16 ∧ ∃ c r, nm.data.toList = c :: r ∧ letterN c.toNat = true := by
  unfold named at h
  rw [Bool.and_eq_true] at h
  obtain ⟨h1, h2⟩ := h
  cases hl : nm.data.toList with
  | nil => rw [hl] at h2; cases h2
  | cons c r =>
    rw [hl] at h2
    unfold namedL at h2
    rw [Bool.and_eq_true] at h2
    have hc : letterN c.toNat = true := by rw [← letterB_eq]; exact h2.1
    refine ⟨fun x hx => ?_, of_decide_eq_true h1, c, r, rfl, hc⟩
    rcases List.mem_cons.1 hx with rfl | hx
    · unfold wordN; rw [hc]; rfl
    · have := List.all_eq_true.1 h2.2 x hx
      unfold wordN
      rw [← letterB_eq, ← digitB_eq]; exact this
end Go.Proofs.YtpphjddljngkmaaGreatDoor

namespace Go.Proofs.YtpphjddljngkmaaGreatDoor
open Go.RowKit

/-- A piece of a line: a blank, a word, digits, a text, a pattern, a sign. -/
structure It where
  k : Nat
  t : ByteArray
def bl : It := ⟨0, ByteArray.empty⟩
def wd (t : ByteArray) : It := ⟨1, t⟩
def nu (t : ByteArray) : It := ⟨2, t⟩
def tx (t : ByteArray) : It := ⟨3, t⟩
def pa (t : ByteArray) : It := ⟨4, t⟩
def sg (b : UInt8) : It := ⟨5, sgn b⟩
def df : It := ⟨5, tIs⟩
/-- Its bytes. -/
def It.b (x : It) : List UInt8 := if x.k = 0 then [32] else if x.k = 3 then quoteL x.t.data.toList else if x.k = 4 then 91 :: (x.t.data.toList ++ [93]) else x.t.data.toList
def flt (l : List It) : List UInt8 := l.flatMap It.b
theorem flt_cons (x : It) (l : List It) : flt (x :: l) = x.b ++ flt l := rfl
theorem flt_app (a b : List It) : flt (a ++ b) = flt a ++ flt b := List.flatMap_append
end Go.Proofs.YtpphjddljngkmaaGreatDoor

namespace Go.Proofs.YtpphjddljngkmaaGreatDoor
open Go.RowKit

theorem firstTo_zero {f : Nat → Int} : ∀ {n : Nat}, firstTo f n = 0 → ∀ i, i < n → f i = 0
  | 0, _, i, hi => absurd hi (Nat.not_lt_zero i)
  | n + 1, h, i, hi => by
    unfold firstTo at h
    split at h
    · rename_i h0
      rcases Nat.lt_or_ge i n with h1 | h1
      · exact firstTo_zero h0 i h1
      · rw [show i = n by omega]; exact h
    · rename_i h0
      exact absurd h h0
theorem bad_zero {T : PT} (h : T.bad = 0) : errN T = 0 ∧ ∀ i, i < T.len → (T.kid i).bad = 0 := by
  rw [T.bad_eq] at h
  split at h
  · rename_i h0
    exact ⟨h0, firstTo_zero h⟩
  · rename_i h0
    exact absurd h h0
theorem named_zero {T : PT} (h : errN T = 0) (hk : 21 ≤ T.k ∧ T.k ≤ 24) : T.nm.size ≤ 16 := by
  have hn : named T.nm = true := by
    cases hq : named T.nm with
    | true => rfl
    | false =>
      have : errN T = 7 := by
        have e : hasK T.k = 3 := by unfold hasK; rw [if_neg (by omega), if_neg (by omega), if_pos hk]
        unfold errN; rw [if_neg (by omega), if_neg (by omega), if_neg (by omega), if_neg (by omega), if_pos ⟨e, hq⟩]
      omega
  unfold named at hn
  simp at hn
  exact hn.1
/-- What a right node has. -/
theorem right_node {T : PT} (h : errN T = 0) : 1 ≤ T.k ∧ T.k ≤ 24 ∧ (hasK T.k = 1 → T.t.size ≤ 65536) ∧ (hasK T.k = 2 → 0 ≤ T.n ∧ T.n ≤ 65536) ∧ (hasK T.k = 3 → named T.nm = true) ∧ leastK T.k ≤ T.len ∧ (T.len : Int) ≤ mostK T.k := by
  unfold errN at h
  split at h
  · omega
  · split at h
    · omega
    · split at h
      · omega
      · split at h
        · omega
        · split at h
          · omega
          · split at h
            · omega
            · rename_i h1 h2 h3 h4 h5 h6
              refine ⟨by omega, by omega, fun x => by omega, fun x => by omega, fun x => ?_, by omega, by omega⟩
              cases hn : named T.nm with
              | true => rfl
              | false => exact absurd ⟨x, hn⟩ h5
end Go.Proofs.YtpphjddljngkmaaGreatDoor
