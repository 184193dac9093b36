/- Plain facts on how often a text stands in another one: lists of bytes alone. -/
import Derived.Lib.CountLaws
import Derived.Lib.ReplaceLaws
namespace Go.Proofs.YtcphfhkefgaalabDoor
open Go
theorem cnt_nil (p : List UInt8) (hp : p ≠ []) : Lib.count [] p = 0 := by
  apply Lib.count_miss
  cases p with
  | nil => exact absurd rfl hp
  | cons a t => rfl
theorem cnt_hit (s p : List UInt8) (hp : p ≠ []) (h : p.isPrefixOf s = true) : Lib.count s p = 1 + Lib.count (s.drop p.length) p := by
  have hi : Lib.index s p = (0 : Nat) := by
    apply Lib.index_first (Nat.zero_le _)
    · simpa [Lib.occAt] using h
    · intro j hj; exact absurd hj (Nat.not_lt_zero _)
  have := Lib.count_hit hp hi
  simpa using this
theorem cnt_miss (x : UInt8) (l p : List UInt8) (hp : p ≠ []) (h : p.isPrefixOf (x :: l) = false) : Lib.count (x :: l) p = Lib.count l p := by
  have hi : Lib.index (x :: l) p = if Lib.index l p == -1 then -1 else Lib.index l p + 1 := by
    conv => lhs; unfold Lib.index
    rw [h]; simp
  by_cases hm : Lib.index l p = -1
  · rw [Lib.count_miss hm]
    apply Lib.count_miss
    rw [hi, hm]; simp
  · have hge := Lib.index_ge l p
    obtain ⟨i, hil⟩ : ∃ i : Nat, Lib.index l p = (i : Int) := ⟨(Lib.index l p).toNat, by omega⟩
    have hi2 : Lib.index (x :: l) p = ((i + 1 : Nat) : Int) := by
      rw [hi, hil]
      have : ((i : Int) == -1) = false := by rw [beq_eq_false_iff_ne]; omega
      simp [this]
    rw [Lib.count_hit hp hi2, Lib.count_hit hp hil]
    rw [show i + 1 + p.length = (i + p.length) + 1 from by omega, List.drop_succ_cons]
/-- A byte less at its head: no more; as many bytes less as the part has, or fewer: at most one less. -/
theorem cnt_both (p : List UInt8) (hp : p ≠ []) : ∀ (n : Nat) (s : List UInt8), s.length ≤ n →
    Lib.count s.tail p ≤ Lib.count s p ∧ ∀ j, j ≤ p.length → Lib.count s p ≤ 1 + Lib.count (s.drop j) p := by
  intro n
  induction n with
  | zero =>
    intro s hs
    have : s = [] := List.eq_nil_of_length_eq_zero (by omega)
    subst this
    exact ⟨Nat.le_refl _, fun j _ => by rw [cnt_nil p hp]; omega⟩
  | succ n ih =>
    have mono : ∀ k (s : List UInt8), s.length ≤ n → Lib.count (s.drop k) p ≤ Lib.count s p := by
      intro k
      induction k with
      | zero => intro s _; simp
      | succ k ihk =>
        intro s hs
        have h1 := (ih s hs).1
        have h2 := ihk s.tail (by simp; omega)
        rw [List.drop_tail] at h2
        omega
    intro s hs
    cases s with
    | nil => exact ⟨Nat.le_refl _, fun j _ => by rw [cnt_nil p hp]; omega⟩
    | cons x l =>
      have hl : l.length ≤ n := by simpa using hs
      have hpl : 0 < p.length := List.length_pos_iff.2 hp
      by_cases h : p.isPrefixOf (x :: l) = true
      · have e := cnt_hit (x :: l) p hp h
        obtain ⟨m, hm⟩ : ∃ m, p.length = m + 1 := ⟨p.length - 1, by omega⟩
        rw [hm, List.drop_succ_cons] at e
        refine ⟨?_, fun j hj => ?_⟩
        · have := (ih l hl).2 m (by omega)
          rw [List.tail_cons]; omega
        · cases j with
          | zero => simp
          | succ j =>
            rw [List.drop_succ_cons]
            have := mono (m - j) (l.drop j) (by simp; omega)
            rw [List.drop_drop, show j + (m - j) = m from by omega] at this
            omega
      · have h' : p.isPrefixOf (x :: l) = false := Bool.eq_false_iff.2 h
        have e := cnt_miss x l p hp h'
        refine ⟨by rw [List.tail_cons]; omega, fun j hj => ?_⟩
        cases j with
        | zero => simp
        | succ j =>
          rw [List.drop_succ_cons]
          have := (ih l hl).2 j (by omega)
          omega
theorem cnt_drop (p : List UInt8) (hp : p ≠ []) (s : List UInt8) (k : Nat) : Lib.count (s.drop k) p ≤ Lib.count s p := by
  induction k generalizing s with
  | zero => simp
  | succ k ihk =>
    have h1 := (cnt_both p hp s.length s (Nat.le_refl _)).1
    have h2 := ihk s.tail
    rw [List.drop_tail] at h2
    omega
theorem cnt_short (p s : List UInt8) (hp : p ≠ []) (h : s.length < p.length) : Lib.count s p = 0 := by
  induction s with
  | nil => exact cnt_nil p hp
  | cons x l ih =>
    have hf : p.isPrefixOf (x :: l) = false := by
      apply Bool.eq_false_iff.2
      intro e
      have := (List.isPrefixOf_iff_prefix.1 e).length_le
      omega
    rw [cnt_miss x l p hp hf]
    exact ih (by simp at h; omega)
theorem cnt_cut (p : List UInt8) (hp : p ≠ []) (y : List UInt8) : ∀ (n : Nat) (x : List UInt8), x.length ≤ n →
    Lib.count x p + Lib.count y p ≤ Lib.count (x ++ y) p ∧ Lib.count (x ++ y) p ≤ Lib.count x p + Lib.count y p + 1 := by
  intro n
  induction n with
  | zero =>
    intro x hx
    have : x = [] := List.eq_nil_of_length_eq_zero (by omega)
    subst this
    rw [cnt_nil p hp, List.nil_append]; omega
  | succ n ih =>
    intro x hx
    cases x with
    | nil => rw [cnt_nil p hp, List.nil_append]; omega
    | cons b l =>
      have hpl : 0 < p.length := List.length_pos_iff.2 hp
      by_cases h : p.isPrefixOf (b :: l) = true
      · have hpre := List.isPrefixOf_iff_prefix.1 h
        have h2 : p.isPrefixOf (b :: l ++ y) = true := List.isPrefixOf_iff_prefix.2 (hpre.trans (List.prefix_append _ _))
        rw [cnt_hit _ p hp h, cnt_hit _ p hp h2, List.drop_append_of_le_length hpre.length_le]
        have := ih ((b :: l).drop p.length) (by rw [List.length_drop]; simp at hx ⊢; omega)
        omega
      · have h' : p.isPrefixOf (b :: l) = false := Bool.eq_false_iff.2 h
        by_cases h3 : p.isPrefixOf (b :: l ++ y) = true
        · have hshort : (b :: l).length < p.length := by
            apply Nat.lt_of_not_le
            intro hle
            have hpre := List.isPrefixOf_iff_prefix.1 h3
            apply h
            rw [List.isPrefixOf_iff_prefix]
            exact List.prefix_of_prefix_length_le hpre (List.prefix_append _ _) hle
          rw [cnt_short p (b :: l) hp hshort]
          have e1 := cnt_hit _ p hp h3
          rw [List.drop_append, List.drop_of_length_le (by omega), List.nil_append] at e1
          have d1 := cnt_drop p hp y (p.length - (b :: l).length)
          have d2 := cnt_drop p hp (b :: l ++ y) (b :: l).length
          rw [List.drop_left] at d2
          omega
        · have h4 : p.isPrefixOf (b :: (l ++ y)) = false := Bool.eq_false_iff.2 h3
          rw [List.cons_append, cnt_miss b (l ++ y) p hp h4, cnt_miss b l p hp h']
          exact ih l (by simpa using hx)
end Go.Proofs.YtcphfhkefgaalabDoor
