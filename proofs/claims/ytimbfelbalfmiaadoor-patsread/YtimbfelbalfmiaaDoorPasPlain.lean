/- Runs of bytes, and texts in quotes, plain. -/
import Derived.Test.YtimbfelbalfmiaaDoorPatBase
namespace Go.Proofs.YtimbfelbalfmiaaDoor
open Go.RowKit

theorem bat_end (s : ByteArray) (i : Nat) (h : s.size ≤ i) : bat s i = 0 := by
  unfold bat
  have : s.data.toList.length ≤ i := by simpa using h
  rw [List.getD, List.getElem?_eq_none this]; rfl
theorem bat_in {s : ByteArray} {i : Nat} (h : bat s i ≠ 0) : i < s.size := by
  by_cases k : i < s.size
  · exact k
  · exact absurd (bat_end s i (by omega)) h

/-- Where a run of such bytes ends. -/
def pasF (s : ByteArray) (p : Nat → Bool) : Nat → Nat → Nat
  | 0, i => i
  | f + 1, i => if i < s.size ∧ p (bat s i) = true then pasF s p f (i + 1) else i
def pas (s : ByteArray) (p : Nat → Bool) (i : Nat) : Nat := pasF s p (s.size - i) i
theorem pas_step {s : ByteArray} {p : Nat → Bool} {i : Nat} (h : i < s.size) (hp : p (bat s i) = true) : pas s p i = pas s p (i + 1) := by
  unfold pas
  rw [show s.size - i = (s.size - (i + 1)) + 1 by omega, pasF, if_pos ⟨h, hp⟩]
theorem pas_stop {s : ByteArray} {p : Nat → Bool} {i : Nat} (h : i < s.size → p (bat s i) = false) : pas s p i = i := by
  unfold pas
  cases hq : s.size - i with
  | zero => rfl
  | succ f => rw [pasF, if_neg]; rintro ⟨h1, h2⟩; rw [h h1] at h2; cases h2
theorem pasF_le (s : ByteArray) (p : Nat → Bool) : ∀ f i, i ≤ s.size → i ≤ pasF s p f i ∧ pasF s p f i ≤ s.size
  | 0, i, h => ⟨Nat.le_refl _, h⟩
  | f + 1, i, h => by
    rw [pasF]
    split
    · rename_i hc
      have := pasF_le s p f (i + 1) (by omega)
      omega
    · exact ⟨Nat.le_refl _, h⟩
theorem pas_le (s : ByteArray) (p : Nat → Bool) (i : Nat) (h : i ≤ s.size) : i ≤ pas s p i ∧ pas s p i ≤ s.size := pasF_le s p _ i h
theorem pasF_all (s : ByteArray) (p : Nat → Bool) : ∀ f i, ∀ j, i ≤ j → j < pasF s p f i → p (bat s j) = true
  | 0, i, j, h1, h2 => by rw [pasF] at h2; omega
  | f + 1, i, j, h1, h2 => by
    rw [pasF] at h2
    split at h2
    · rename_i hc
      by_cases hj : j = i
      · subst hj; exact hc.2
      · exact pasF_all s p f (i + 1) j (by omega) h2
    · omega
theorem pas_all {s : ByteArray} {p : Nat → Bool} {i : Nat} (j : Nat) (h1 : i ≤ j) (h2 : j < pas s p i) : p (bat s j) = true := pasF_all s p _ i j h1 h2
theorem pasF_next (s : ByteArray) (p : Nat → Bool) : ∀ f i, s.size ≤ f + i → pasF s p f i < s.size → p (bat s (pasF s p f i)) = false
  | 0, i, h, h2 => by rw [pasF] at h2; omega
  | f + 1, i, h, h2 => by
    rw [pasF] at h2 ⊢
    split
    · rename_i hc; rw [if_pos hc] at h2; exact pasF_next s p f (i + 1) (by omega) h2
    · rename_i hc
      rw [if_neg hc] at h2
      cases hp : p (bat s i)
      · rfl
      · exact absurd ⟨h2, hp⟩ hc
theorem pas_next {s : ByteArray} {p : Nat → Bool} {i : Nat} (h : pas s p i < s.size) : p (bat s (pas s p i)) = false := pasF_next s p _ i (by omega) h

/-- Where quotes are closed, from a place behind the opening one on; and the bytes up to there, with single quotes. -/
def cqF (s : ByteArray) : Nat → Nat → Nat
  | 0, _ => s.size
  | f + 1, i => if i < s.size then (if bat s i = 39 then (if bat s (i + 1) = 39 then cqF s f (i + 2) else i) else cqF s f (i + 1)) else s.size
def ctF (s : ByteArray) : Nat → Nat → List UInt8
  | 0, _ => []
  | f + 1, i => if i < s.size then (if bat s i = 39 then (if bat s (i + 1) = 39 then 39 :: ctF s f (i + 2) else []) else s.data.toList.getD i 0 :: ctF s f (i + 1)) else []
theorem cqF_fuel (s : ByteArray) : ∀ f g i, s.size ≤ f + i → s.size ≤ g + i → cqF s f i = cqF s g i
  | 0, 0, i, _, _ => rfl
  | 0, g + 1, i, h, _ => by rw [cqF, cqF, if_neg (by omega)]
  | f + 1, 0, i, _, h => by rw [cqF, cqF, if_neg (by omega)]
  | f + 1, g + 1, i, h1, h2 => by
    rw [cqF, cqF, cqF_fuel s f g (i + 2) (by omega) (by omega), cqF_fuel s f g (i + 1) (by omega) (by omega)]
theorem ctF_fuel (s : ByteArray) : ∀ f g i, s.size ≤ f + i → s.size ≤ g + i → ctF s f i = ctF s g i
  | 0, 0, i, _, _ => rfl
  | 0, g + 1, i, h, _ => by rw [ctF, ctF, if_neg (by omega)]
  | f + 1, 0, i, _, h => by rw [ctF, ctF, if_neg (by omega)]
  | f + 1, g + 1, i, h1, h2 => by
    rw [ctF, ctF, ctF_fuel s f g (i + 2) (by omega) (by omega), ctF_fuel s f g (i + 1) (by omega) (by omega)]
def cq (s : ByteArray) (i : Nat) : Nat := cqF s s.size i
def ct (s : ByteArray) (i : Nat) : List UInt8 := ctF s s.size i
theorem cq_eq (s : ByteArray) (i : Nat) : cq s i = if i < s.size then (if bat s i = 39 then (if bat s (i + 1) = 39 then cq s (i + 2) else i) else cq s (i + 1)) else s.size := by
  unfold cq
  rw [cqF_fuel s s.size (s.size + 1) i (by omega) (by omega), cqF]
theorem ct_eq (s : ByteArray) (i : Nat) : ct s i = if i < s.size then (if bat s i = 39 then (if bat s (i + 1) = 39 then 39 :: ct s (i + 2) else []) else s.data.toList.getD i 0 :: ct s (i + 1)) else [] := by
  unfold ct
  rw [ctF_fuel s s.size (s.size + 1) i (by omega) (by omega), ctF]
theorem cq_end {s : ByteArray} {i : Nat} (h : s.size ≤ i) : cq s i = s.size := by rw [cq_eq, if_neg (by omega)]
theorem cq_plain {s : ByteArray} {i : Nat} (h : i < s.size) (hb : bat s i ≠ 39) : cq s i = cq s (i + 1) := by rw [cq_eq, if_pos h, if_neg hb]
theorem cq_two {s : ByteArray} {i : Nat} (hb : bat s i = 39) (hc : bat s (i + 1) = 39) : cq s i = cq s (i + 2) := by rw [cq_eq, if_pos (bat_in (by omega)), if_pos hb, if_pos hc]
theorem cq_here {s : ByteArray} {i : Nat} (hb : bat s i = 39) (hc : bat s (i + 1) ≠ 39) : cq s i = i := by rw [cq_eq, if_pos (bat_in (by omega)), if_pos hb, if_neg hc]
theorem ct_end {s : ByteArray} {i : Nat} (h : s.size ≤ i) : ct s i = [] := by rw [ct_eq, if_neg (by omega)]
theorem ct_plain {s : ByteArray} {i : Nat} (h : i < s.size) (hb : bat s i ≠ 39) : ct s i = s.data.toList.getD i 0 :: ct s (i + 1) := by rw [ct_eq, if_pos h, if_neg hb]
theorem ct_two {s : ByteArray} {i : Nat} (hb : bat s i = 39) (hc : bat s (i + 1) = 39) : ct s i = 39 :: ct s (i + 2) := by rw [ct_eq, if_pos (bat_in (by omega)), if_pos hb, if_pos hc]
theorem ct_here {s : ByteArray} {i : Nat} (hb : bat s i = 39) (hc : bat s (i + 1) ≠ 39) : ct s i = [] := by rw [ct_eq, if_pos (bat_in (by omega)), if_pos hb, if_neg hc]
theorem cq_ind {s : ByteArray} {P : Nat → Prop} (h0 : ∀ i, s.size ≤ i → P i) (h1 : ∀ i, i < s.size → bat s i ≠ 39 → P (i + 1) → P i) (h2 : ∀ i, bat s i = 39 → bat s (i + 1) = 39 → P (i + 2) → P i) (h3 : ∀ i, bat s i = 39 → bat s (i + 1) ≠ 39 → P i) : ∀ f i, s.size ≤ f + i → P i
  | 0, i, h => h0 i (by omega)
  | f + 1, i, h => by
    rcases Nat.lt_or_ge i s.size with hi | hi
    · by_cases hb : bat s i = 39
      · by_cases hc : bat s (i + 1) = 39
        · exact h2 i hb hc (cq_ind h0 h1 h2 h3 f (i + 2) (by omega))
        · exact h3 i hb hc
      · exact h1 i hi hb (cq_ind h0 h1 h2 h3 f (i + 1) (by omega))
    · exact h0 i hi
theorem cq_le (s : ByteArray) (i : Nat) (h : i ≤ s.size) : i ≤ cq s i ∧ cq s i ≤ s.size :=
  cq_ind (P := fun i => i ≤ s.size → i ≤ cq s i ∧ cq s i ≤ s.size) (fun i hi h => by rw [cq_end hi]; omega) (fun i hi hb ih h => by rw [cq_plain hi hb]; have := ih (by omega); omega)
    (fun i hb hc ih h => by rw [cq_two hb hc]; have := bat_in (s := s) (i := i + 1) (by omega); have := ih (by omega); omega) (fun i hb hc h => by rw [cq_here hb hc]; omega) s.size i (by omega) h
theorem cq_bat (s : ByteArray) (i : Nat) (h : cq s i < s.size) : bat s (cq s i) = 39 :=
  cq_ind (P := fun i => cq s i < s.size → bat s (cq s i) = 39) (fun i hi h => by rw [cq_end hi] at h; omega) (fun i hi hb ih h => by rw [cq_plain hi hb] at h ⊢; exact ih h)
    (fun i hb hc ih h => by rw [cq_two hb hc] at h ⊢; exact ih h) (fun i hb hc h => by rw [cq_here hb hc]; exact hb) s.size i (by omega) h

def blankN (b : Nat) : Bool := decide (b = 32)
def wordN (b : Nat) : Bool := letterN b || digitN b
end Go.Proofs.YtimbfelbalfmiaaDoor
