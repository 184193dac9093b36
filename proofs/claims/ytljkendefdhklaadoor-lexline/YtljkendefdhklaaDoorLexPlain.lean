/- Lines and tokens, plain. -/
import Derived.Test.YtljkendefdhklaaDoorLexBase
namespace Go.Proofs.YtljkendefdhklaaDoor
open Go.RowKit

theorem bat_end (s : ByteArray) (i : Nat) (h : s.size ≤ i) : bat s i = 0 := by
  unfold bat
  have : s.data.toList.length ≤ i := by simpa using h
  rw [List.getD, List.getElem?_eq_none this]; rfl
theorem bat_in {s : ByteArray} {i : Nat} (h : bat s i ≠ 0) : i < s.size := by
  by_cases k : i < s.size
  · exact k
  · exact absurd (bat_end s i (by omega)) h

/-- Where a run of such bytes ends. -/
def pasF (s : ByteArray) (p : Nat → Bool) : Nat → Nat → Nat
  | 0, i => i
  | f + 1, i => if i < s.size ∧ p (bat s i) = true then pasF s p f (i + 1) else i
def pas (s : ByteArray) (p : Nat → Bool) (i : Nat) : Nat := pasF s p (s.size - i) i
theorem pas_step {s : ByteArray} {p : Nat → Bool} {i : Nat} (h : i < s.size) (hp : p (bat s i) = true) : pas s p i = pas s p (i + 1) := by
  unfold pas
  rw [show s.size - i = (s.size - (i + 1)) + 1 by omega, pasF, if_pos ⟨h, hp⟩]
theorem pas_stop {s : ByteArray} {p : Nat → Bool} {i : Nat} (h : i < s.size → p (bat s i) = false) : pas s p i = i := by
  unfold pas
  cases hq : s.size - i with
  | zero => rfl
  | succ f => rw [pasF, if_neg]; rintro ⟨h1, h2⟩; rw [h h1] at h2; cases h2
theorem pasF_le (s : ByteArray) (p : Nat → Bool) : ∀ f i, i ≤ s.size → i ≤ pasF s p f i ∧ pasF s p f i ≤ s.size
  | 0, i, h => ⟨Nat.le_refl _, h⟩
  | f + 1, i, h => by
    rw [pasF]
    split
    · rename_i hc
      have := pasF_le s p f (i + 1) (by omega)
      omega
    · exact ⟨Nat.le_refl _, h⟩
theorem pas_le (s : ByteArray) (p : Nat → Bool) (i : Nat) (h : i ≤ s.size) : i ≤ pas s p i ∧ pas s p i ≤ s.size := pasF_le s p _ i h
theorem pasF_all (s : ByteArray) (p : Nat → Bool) : ∀ f i, ∀ j, i ≤ j → j < pasF s p f i → p (bat s j) = true
  | 0, i, j, h1, h2 => by rw [pasF] at h2; omega
  | f + 1, i, j, h1, h2 => by
    rw [pasF] at h2
    split at h2
    · rename_i hc
      by_cases hj : j = i
      · subst hj; exact hc.2
      · exact pasF_all s p f (i + 1) j (by omega) h2
    · omega
theorem pas_all {s : ByteArray} {p : Nat → Bool} {i : Nat} (j : Nat) (h1 : i ≤ j) (h2 : j < pas s p i) : p (bat s j) = true := pasF_all s p _ i j h1 h2
theorem pasF_next (s : ByteArray) (p : Nat → Bool) : ∀ f i, s.size ≤ f + i → pasF s p f i < s.size → p (bat s (pasF s p f i)) = false
  | 0, i, h, h2 => by rw [pasF] at h2; omega
  | f + 1, i, h, h2 => by
    rw [pasF] at h2 ⊢
    split
    · rename_i hc; rw [if_pos hc] at h2; exact pasF_next s p f (i + 1) (by omega) h2
    · rename_i hc
      rw [if_neg hc] at h2
      cases hp : p (bat s i)
      · rfl
      · exact absurd ⟨h2, hp⟩ hc
theorem pas_next {s : ByteArray} {p : Nat → Bool} {i : Nat} (h : pas s p i < s.size) : p (bat s (pas s p i)) = false := pasF_next s p _ i (by omega) h

/-- Where quotes are closed, from a place behind the opening one on; and the bytes up to there, with single quotes. -/
def cqF (s : ByteArray) : Nat → Nat → Nat
  | 0, _ => s.size
  | f + 1, i => if i < s.size then (if bat s i = 39 then (if bat s (i + 1) = 39 then cqF s f (i + 2) else i) else cqF s f (i + 1)) else s.size
def ctF (s : ByteArray) : Nat → Nat → List UInt8
  | 0, _ => []
  | f + 1, i => if i < s.size then (if bat s i = 39 then (if bat s (i + 1) = 39 then 39 :: ctF s f (i + 2) else []) else s.data.toList.getD i 0 :: ctF s f (i + 1)) else []
theorem cqF_fuel (s : ByteArray) : ∀ f g i, s.size ≤ f + i → s.size ≤ g + i → cqF s f i = cqF s g i
  | 0, 0, i, _, _ => rfl
  | 0, g + 1, i, h, _ => by rw [cqF, cqF, if_neg (by omega)]
  | f + 1, 0, i, _, h => by rw [cqF, cqF, if_neg (by omega)]
  | f + 1, g + 1, i, h1, h2 => by
    rw [cqF, cqF, cqF_fuel s f g (i + 2) (by omega) (by omega), cqF_fuel s f g (i + 1) (by omega) (by omega)]
theorem ctF_fuel (s : ByteArray) : ∀ f g i, s.size ≤ f + i → s.size ≤ g + i → ctF s f i = ctF s g i
  | 0, 0, i, _, _ => rfl
  | 0, g + 1, i, h, _ => by rw [ctF, ctF, if_neg (by omega)]
  | f + 1, 0, i, _, h => by rw [ctF, ctF, if_neg (by omega)]
  | f + 1, g + 1, i, h1, h2 => by
    rw [ctF, ctF, ctF_fuel s f g (i + 2) (by omega) (by omega), ctF_fuel s f g (i + 1) (by omega) (by omega)]
def cq (s : ByteArray) (i : Nat) : Nat := cqF s s.size i
def ct (s : ByteArray) (i : Nat) : List UInt8 := ctF s s.size i
theorem cq_eq (s : ByteArray) (i : Nat) : cq s i = if i < s.size then (if bat s i = 39 then (if bat s (i + 1) = 39 then cq s (i + 2) else i) else cq s (i + 1)) else s.size := by
  unfold cq
  rw [cqF_fuel s s.size (s.size + 1) i (by omega) (by omega), cqF]
theorem ct_eq (s : ByteArray) (i : Nat) : ct s i = if i < s.size then (if bat s i = 39 then (if bat s (i + 1) = 39 then 39 :: ct s (i + 2) else []) else s.data.toList.getD i 0 :: ct s (i + 1)) else [] := by
  unfold ct
  rw [ctF_fuel s s.size (s.size + 1) i (by omega) (by omega), ctF]
theorem cq_end {s : ByteArray} {i : Nat} (h : s.size ≤ i) : cq s i = s.size := by rw [cq_eq, if_neg (by omega)]
theorem cq_plain {s : ByteArray} {i : Nat} (h : i < s.size) (hb : bat s i ≠ 39) : cq s i = cq s (i + 1) := by rw [cq_eq, if_pos h, if_neg hb]
theorem cq_two {s : ByteArray} {i : Nat} (hb : bat s i = 39) (hc : bat s (i + 1) = 39) : cq s i = cq s (i + 2) := by rw [cq_eq, if_pos (bat_in (by omega)), if_pos hb, if_pos hc]
theorem cq_here {s : ByteArray} {i : Nat} (hb : bat s i = 39) (hc : bat s (i + 1) ≠ 39) : cq s i = i := by rw [cq_eq, if_pos (bat_in (by omega)), if_pos hb, if_neg hc]
theorem ct_end {s : ByteArray} {i : Nat} (h : s.size ≤ i) : ct s i = [] := by rw [ct_eq, if_neg (by omega)]
theorem ct_plain {s : ByteArray} {i : Nat} (h : i < s.size) (hb : bat s i ≠ 39) : ct s i = s.data.toList.getD i 0 :: ct s (i + 1) := by rw [ct_eq, if_pos h, if_neg hb]
theorem ct_two {s : ByteArray} {i : Nat} (hb : bat s i = 39) (hc : bat s (i + 1) = 39) : ct s i = 39 :: ct s (i + 2) := by rw [ct_eq, if_pos (bat_in (by omega)), if_pos hb, if_pos hc]
theorem ct_here {s : ByteArray} {i : Nat} (hb : bat s i = 39) (hc : bat s (i + 1) ≠ 39) : ct s i = [] := by rw [ct_eq, if_pos (bat_in (by omega)), if_pos hb, if_neg hc]
theorem cq_ind {s : ByteArray} {P : Nat → Prop} (h0 : ∀ i, s.size ≤ i → P i) (h1 : ∀ i, i < s.size → bat s i ≠ 39 → P (i + 1) → P i) (h2 : ∀ i, bat s i = 39 → bat s (i + 1) = 39 → P (i + 2) → P i) (h3 : ∀ i, bat s i = 39 → bat s (i + 1) ≠ 39 → P i) : ∀ f i, s.size ≤ f + i → P i
  | 0, i, h => h0 i (by omega)
  | f + 1, i, h => by
    rcases Nat.lt_or_ge i s.size with hi | hi
    · by_cases hb : bat s i = 39
      · by_cases hc : bat s (i + 1) = 39
        · exact h2 i hb hc (cq_ind h0 h1 h2 h3 f (i + 2) (by omega))
        · exact h3 i hb hc
      · exact h1 i hi hb (cq_ind h0 h1 h2 h3 f (i + 1) (by omega))
    · exact h0 i hi
theorem cq_le (s : ByteArray) (i : Nat) (h : i ≤ s.size) : i ≤ cq s i ∧ cq s i ≤ s.size :=
  cq_ind (P := fun i => i ≤ s.size → i ≤ cq s i ∧ cq s i ≤ s.size) (fun i hi h => by rw [cq_end hi]; omega) (fun i hi hb ih h => by rw [cq_plain hi hb]; have := ih (by omega); omega)
    (fun i hb hc ih h => by rw [cq_two hb hc]; have := bat_in (s := s) (i := i + 1) (by omega); have := ih (by omega); omega) (fun i hb hc h => by rw [cq_here hb hc]; omega) s.size i (by omega) h
theorem cq_bat (s : ByteArray) (i : Nat) (h : cq s i < s.size) : bat s (cq s i) = 39 :=
  cq_ind (P := fun i => cq s i < s.size → bat s (cq s i) = 39) (fun i hi h => by rw [cq_end hi] at h; omega) (fun i hi hb ih h => by rw [cq_plain hi hb] at h ⊢; exact ih h)
    (fun i hb hc ih h => by rw [cq_two hb hc] at h ⊢; exact ih h) (fun i hb hc h => by rw [cq_here hb hc]; exact hb) s.size i (by omega) h

/-- Where a pattern is closed. -/
def cbF (s : ByteArray) : Nat → Nat → Nat
  | 0, _ => s.size
  | f + 1, i => if i < s.size then (if bat s i = 93 then i else if bat s i = 39 then cbF s f (cq s (i + 1) + 1) else cbF s f (i + 1)) else s.size
theorem cbF_fuel (s : ByteArray) : ∀ f g i, s.size ≤ f + i → s.size ≤ g + i → cbF s f i = cbF s g i
  | 0, 0, i, _, _ => rfl
  | 0, g + 1, i, h, _ => by rw [cbF, cbF, if_neg (by omega)]
  | f + 1, 0, i, _, h => by rw [cbF, cbF, if_neg (by omega)]
  | f + 1, g + 1, i, h1, h2 => by
    rw [cbF, cbF]
    by_cases hi : i < s.size
    · have := cq_le s (i + 1) (by omega)
      rw [cbF_fuel s f g (cq s (i + 1) + 1) (by omega) (by omega), cbF_fuel s f g (i + 1) (by omega) (by omega)]
    · rw [if_neg hi, if_neg hi]
def cb (s : ByteArray) (i : Nat) : Nat := cbF s s.size i
theorem cb_eq (s : ByteArray) (i : Nat) : cb s i = if i < s.size then (if bat s i = 93 then i else if bat s i = 39 then cb s (cq s (i + 1) + 1) else cb s (i + 1)) else s.size := by
  unfold cb
  rw [cbF_fuel s s.size (s.size + 1) i (by omega) (by omega), cbF]
theorem cb_end {s : ByteArray} {i : Nat} (h : s.size ≤ i) : cb s i = s.size := by rw [cb_eq, if_neg (by omega)]
theorem cb_here {s : ByteArray} {i : Nat} (hb : bat s i = 93) : cb s i = i := by rw [cb_eq, if_pos (bat_in (by omega)), if_pos hb]
theorem cb_quote {s : ByteArray} {i : Nat} (hb : bat s i = 39) : cb s i = cb s (cq s (i + 1) + 1) := by rw [cb_eq, if_pos (bat_in (by omega)), if_neg (by omega), if_pos hb]
theorem cb_plain {s : ByteArray} {i : Nat} (h : i < s.size) (hb : bat s i ≠ 39) (hc : bat s i ≠ 93) : cb s i = cb s (i + 1) := by rw [cb_eq, if_pos h, if_neg hc, if_neg hb]
theorem cb_ind {s : ByteArray} {P : Nat → Prop} (h0 : ∀ i, s.size ≤ i → P i) (h1 : ∀ i, i < s.size → bat s i ≠ 39 → bat s i ≠ 93 → P (i + 1) → P i) (h2 : ∀ i, i < s.size → bat s i = 39 → P (cq s (i + 1) + 1) → P i) (h3 : ∀ i, bat s i = 93 → P i) : ∀ f i, s.size ≤ f + i → P i
  | 0, i, h => h0 i (by omega)
  | f + 1, i, h => by
    rcases Nat.lt_or_ge i s.size with hi | hi
    · by_cases hb : bat s i = 39
      · have := cq_le s (i + 1) (by omega)
        exact h2 i hi hb (cb_ind h0 h1 h2 h3 f _ (by omega))
      · by_cases hc : bat s i = 93
        · exact h3 i hc
        · exact h1 i hi hb hc (cb_ind h0 h1 h2 h3 f (i + 1) (by omega))
    · exact h0 i hi
theorem cb_le (s : ByteArray) (i : Nat) (h : i ≤ s.size) : i ≤ cb s i ∧ cb s i ≤ s.size :=
  cb_ind (P := fun i => i ≤ s.size → i ≤ cb s i ∧ cb s i ≤ s.size) (fun i hi h => by rw [cb_end hi]; omega) (fun i hi hb hc ih h => by rw [cb_plain hi hb hc]; have := ih (by omega); omega)
    (fun i hi hb ih h => by
      rw [cb_quote hb]
      have h1 := cq_le s (i + 1) (by omega)
      by_cases hq : cq s (i + 1) + 1 ≤ s.size
      · have := ih hq; omega
      · rw [cb_end (by omega)]; omega) (fun i hb h => by rw [cb_here hb]; omega) s.size i (by omega) h

def blankN (b : Nat) : Bool := decide (b = 32)
def wordN (b : Nat) : Bool := letterN b || digitN b
def signN (b : Nat) : Bool := [61, 63, 38, 43, 45, 42, 47, 37, 40, 41, 60, 62, 44, 58, 36].contains b

/-- A token: its kind, its text, where it begins. -/
structure Tk where
  k : Nat
  t : ByteArray
  a : Nat
/-- What begins at a place: its kind, where it ends (or where that is met, of kind 0), its text. -/
def tk (s : ByteArray) (i : Nat) : Nat × Nat × ByteArray :=
  if letterN (bat s i) = true then (1, pas s wordN i, s.extract i (pas s wordN i))
  else if digitN (bat s i) = true then (2, pas s digitN i, s.extract i (pas s digitN i))
  else if bat s i = 39 then (if cq s (i + 1) = s.size then (0, s.size, ByteArray.empty) else (3, cq s (i + 1) + 1, ⟨(ct s (i + 1)).toArray⟩))
  else if bat s i = 91 then (if cb s (i + 1) = s.size then (0, s.size, ByteArray.empty) else (4, cb s (i + 1) + 1, s.extract (i + 1) (cb s (i + 1))))
  else if bat s i = 58 ∧ bat s (i + 1) = 61 then (5, i + 2, s.extract i (i + 2))
  else if signN (bat s i) = true then (5, i + 1, s.extract i (i + 1))
  else (0, i, ByteArray.empty)
theorem letter_range {b : Nat} (h : letterN b = true) : 65 ≤ b ∧ b ≤ 90 := of_decide_eq_true h
theorem digit_range {b : Nat} (h : digitN b = true) : 48 ≤ b ∧ b ≤ 57 := of_decide_eq_true h
theorem tk_le (s : ByteArray) (i : Nat) (h : i < s.size) : i ≤ (tk s i).2.1 ∧ (tk s i).2.1 ≤ s.size ∧ ((tk s i).1 ≠ 0 → i < (tk s i).2.1) ∧ (tk s i).1 ≤ 5 := by
  unfold tk
  have hq := cq_le s (i + 1) (by omega)
  have hb := cb_le s (i + 1) (by omega)
  split
  · rename_i hl
    have := pas_le s wordN (i + 1) (by omega)
    rw [pas_step h (by unfold wordN; rw [hl]; rfl)]
    refine ⟨?_, ?_, fun _ => ?_, ?_⟩ <;> dsimp only <;> omega
  · split
    · rename_i hl
      have := pas_le s digitN (i + 1) (by omega)
      rw [pas_step h hl]
      refine ⟨?_, ?_, fun _ => ?_, ?_⟩ <;> dsimp only <;> omega
    · split
      · split
        · refine ⟨?_, ?_, fun h => absurd rfl h, ?_⟩ <;> dsimp only <;> omega
        · refine ⟨?_, ?_, fun _ => ?_, ?_⟩ <;> dsimp only <;> omega
      · split
        · split
          · refine ⟨?_, ?_, fun h => absurd rfl h, ?_⟩ <;> dsimp only <;> omega
          · refine ⟨?_, ?_, fun _ => ?_, ?_⟩ <;> dsimp only <;> omega
        · split
          · rename_i hc
            have := bat_in (s := s) (i := i + 1) (by omega)
            refine ⟨?_, ?_, fun _ => ?_, ?_⟩ <;> dsimp only <;> omega
          · split
            · refine ⟨?_, ?_, fun _ => ?_, ?_⟩ <;> dsimp only <;> omega
            · refine ⟨?_, ?_, fun h => absurd rfl h, ?_⟩ <;> dsimp only <;> omega
/-- The tokens from a place on, behind those that were met; what is wrong, and where. -/
def lnF (s : ByteArray) : Nat → Nat → List Tk → List Tk × Nat × Nat
  | 0, _, l => (l, 0, 0)
  | f + 1, i, l => if pas s blankN i < s.size then (if (tk s (pas s blankN i)).1 = 0 then ([], 2, (tk s (pas s blankN i)).2.1) else lnF s f (tk s (pas s blankN i)).2.1 (l ++ [⟨(tk s (pas s blankN i)).1, (tk s (pas s blankN i)).2.2, pas s blankN i⟩])) else (l, 0, 0)
theorem lnF_fuel (s : ByteArray) : ∀ f g i l, i ≤ s.size → s.size ≤ f + i → s.size ≤ g + i → lnF s f i l = lnF s g i l
  | 0, 0, i, l, _, _, _ => rfl
  | 0, g + 1, i, l, hi, h, _ => by have := pas_le s blankN i hi; rw [lnF, lnF, if_neg (by omega)]
  | f + 1, 0, i, l, hi, _, h => by have := pas_le s blankN i hi; rw [lnF, lnF, if_neg (by omega)]
  | f + 1, g + 1, i, l, hi, h1, h2 => by
    rw [lnF, lnF]
    by_cases hp : pas s blankN i < s.size
    · rw [if_pos hp, if_pos hp]
      by_cases hk : (tk s (pas s blankN i)).1 = 0
      · rw [if_pos hk, if_pos hk]
      · have h3 := tk_le s _ hp
        have h4 := h3.2.2.1 hk
        have h5 := pas_le s blankN i hi
        rw [if_neg hk, if_neg hk]
        exact lnF_fuel s f g _ _ h3.2.1 (by omega) (by omega)
    · rw [if_neg hp, if_neg hp]
def ln (s : ByteArray) (i : Nat) (l : List Tk) : List Tk × Nat × Nat := lnF s s.size i l
theorem ln_eq (s : ByteArray) (i : Nat) (l : List Tk) (h : i ≤ s.size) : ln s i l = if pas s blankN i < s.size then (if (tk s (pas s blankN i)).1 = 0 then ([], 2, (tk s (pas s blankN i)).2.1) else ln s (tk s (pas s blankN i)).2.1 (l ++ [⟨(tk s (pas s blankN i)).1, (tk s (pas s blankN i)).2.2, pas s blankN i⟩])) else (l, 0, 0) := by
  unfold ln
  rw [lnF_fuel s s.size (s.size + 1) i l h (by omega) (by omega), lnF]
theorem ln_blank {s : ByteArray} {i : Nat} {l : List Tk} (h : i < s.size) (hb : bat s i = 32) : ln s i l = ln s (i + 1) l := by
  rw [ln_eq s i l (by omega), ln_eq s (i + 1) l (by omega), pas_step h (by unfold blankN; rw [hb]; rfl)]
theorem ln_end {s : ByteArray} {l : List Tk} : ln s s.size l = (l, 0, 0) := by
  rw [ln_eq s _ l (Nat.le_refl _), if_neg]
  have := pas_le s blankN s.size (Nat.le_refl _)
  omega
theorem ln_skip {s : ByteArray} {i : Nat} {l : List Tk} (h : i ≤ s.size) : ln s i l = ln s (pas s blankN i) l := by
  have h1 := pas_le s blankN i h
  have h2 : pas s blankN (pas s blankN i) = pas s blankN i := pas_stop fun h => pas_next h
  rw [ln_eq s i l h, ln_eq s _ l h1.2, h2]
theorem ln_bad {s : ByteArray} {i : Nat} {l : List Tk} (h : i < s.size) (hb : bat s i ≠ 32) (hk : (tk s i).1 = 0) : ln s i l = ([], 2, (tk s i).2.1) := by
  have hp : pas s blankN i = i := pas_stop fun _ => decide_eq_false hb
  rw [ln_eq s i l (by omega), hp, if_pos h, if_pos hk]
theorem ln_tok {s : ByteArray} {i : Nat} {l : List Tk} (h : i < s.size) (hb : bat s i ≠ 32) (hk : (tk s i).1 ≠ 0) : ln s i l = ln s (tk s i).2.1 (l ++ [⟨(tk s i).1, (tk s i).2.2, i⟩]) := by
  have hp : pas s blankN i = i := pas_stop fun _ => decide_eq_false hb
  rw [ln_eq s i l (by omega), hp, if_pos h, if_neg hk]
/-- Induction along a line. -/
theorem ln_ind {s : ByteArray} {P : Nat → List Tk → Prop} (h0 : ∀ l, P s.size l) (h1 : ∀ i l, i < s.size → bat s i = 32 → P (i + 1) l → P i l) (h2 : ∀ i l, i < s.size → bat s i ≠ 32 → (tk s i).1 = 0 → P i l)
    (h3 : ∀ i l, i < s.size → bat s i ≠ 32 → (tk s i).1 ≠ 0 → P (tk s i).2.1 (l ++ [⟨(tk s i).1, (tk s i).2.2, i⟩]) → P i l) : ∀ f i l, i ≤ s.size → s.size ≤ f + i → P i l
  | 0, i, l, hi, h => by rw [show i = s.size by omega]; exact h0 l
  | f + 1, i, l, hi, h => by
    rcases Nat.lt_or_ge i s.size with hlt | hge
    · by_cases hb : bat s i = 32
      · exact h1 i l hlt hb (ln_ind h0 h1 h2 h3 f (i + 1) l (by omega) (by omega))
      · by_cases hk : (tk s i).1 = 0
        · exact h2 i l hlt hb hk
        · have h4 := tk_le s i hlt
          have h5 := h4.2.2.1 hk
          exact h3 i l hlt hb hk (ln_ind h0 h1 h2 h3 f _ _ h4.2.1 (by omega))
    · rw [show i = s.size by omega]; exact h0 l
/-- What a line says: its tokens, what is wrong, where. -/
def lineP (s : ByteArray) : List Tk × Nat × Nat := if 2000 < s.size then ([], 4, 0) else ln s 0 []
theorem ln_count {s : ByteArray} : ∀ {l : List Tk} {i : Nat}, i ≤ s.size → l.length ≤ i → (ln s i l).1.length ≤ s.size := fun {l i} hi hl =>
  ln_ind (P := fun i l => l.length ≤ i → (ln s i l).1.length ≤ s.size) (fun l h => by rw [ln_end]; exact h) (fun i l hi hb ih h => by rw [ln_blank hi hb]; exact ih (by omega)) (fun i l hi hb hk h => by rw [ln_bad hi hb hk]; exact Nat.zero_le _)
    (fun i l hi hb hk ih h => by rw [ln_tok hi hb hk]; have := (tk_le s i hi).2.2.1 hk; exact ih (by simp; omega)) s.size i l hi (by omega) hl
theorem line_count (s : ByteArray) : (lineP s).1.length ≤ 2000 := by
  unfold lineP
  split
  · simp
  · have := ln_count (s := s) (l := []) (i := 0) (Nat.zero_le _) (Nat.zero_le _); omega
end Go.Proofs.YtljkendefdhklaaDoor
