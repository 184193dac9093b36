/- Plain facts on numbers written in a base: lists of bytes, no Go text. -/
import Derived.Test.YtfjbafdgjpdbdaaDoorDigPlain
import Derived.Lib.ItoaNum
namespace Go.Proofs.YtfjbafdgjpdbdaaDoor

/-- The sign of a digit. -/
def digByte (d : Nat) : UInt8 := if d < 10 then UInt8.ofNat (48 + d) else UInt8.ofNat (87 + d)
theorem digVal_byte (d : Nat) (h : d < 36) : digVal (digByte d) = d := by
  unfold digByte digVal
  split
  · rw [UInt8.toNat_ofNat']
    have : (48 + d) % 2 ^ 8 = 48 + d := by omega
    rw [this, if_pos (by omega)]; omega
  · rw [UInt8.toNat_ofNat']
    have : (87 + d) % 2 ^ 8 = 87 + d := by omega
    rw [this, if_neg (by omega), if_pos (by omega)]; omega
/-- A number in a base, so many digits at most. -/
def inUpTo (base : Nat) : Nat → Nat → List UInt8
  | 0, u => [digByte u]
  | f + 1, u => if u < base then [digByte u] else inUpTo base f (u / base) ++ [digByte (u % base)]
/-- A number in a base. -/
def inBase (base u : Nat) : List UInt8 := inUpTo base 64 u
theorem inUpTo_more (base : Nat) (_hb : 2 ≤ base) (f : Nat) : ∀ u, u < base ^ (f + 1) → inUpTo base (f + 1) u = inUpTo base f u := by
  induction f with
  | zero =>
    intro u h
    rw [Nat.zero_add, Nat.pow_one] at h
    simp [inUpTo, h]
  | succ f ih =>
    intro u h
    by_cases hu : u < base
    · simp [inUpTo, hu]
    · have h1 : u / base < base ^ (f + 1) := by
        apply Nat.div_lt_of_lt_mul
        rw [Nat.pow_succ, Nat.mul_comm] at h
        exact h
      have e := ih (u / base) h1
      rw [inUpTo, if_neg hu, e]
      rw [inUpTo, if_neg hu]
theorem inBase_small (base u : Nat) (h : u < base) : inBase base u = [digByte u] := by simp [inBase, inUpTo, h]
theorem pow64 (base u : Nat) (hb : 2 ≤ base) (hu : u < 18446744073709551616) : u < base ^ 64 :=
  Nat.lt_of_lt_of_le hu (by have := Nat.pow_le_pow_left hb 64; omega)
theorem inBase_step (base u : Nat) (hb : 2 ≤ base) (hu : u < 18446744073709551616) (h : base ≤ u) : inBase base u = inBase base (u / base) ++ [digByte (u % base)] := by
  have h1 : u / base < base ^ 64 := Nat.lt_of_le_of_lt (Nat.div_le_self _ _) (pow64 base u hb hu)
  have e := inUpTo_more base hb 63 (u / base) h1
  unfold inBase
  rw [inUpTo, if_neg (by omega), e]
theorem inUpTo_len (base : Nat) (f : Nat) : ∀ u, (inUpTo base f u).length ≤ f + 1 ∧ 1 ≤ (inUpTo base f u).length := by
  induction f with
  | zero => intro u; simp [inUpTo]
  | succ f ih =>
    intro u
    rw [inUpTo]
    split
    · simp
    · have := ih (u / base)
      simp; omega
theorem inBase_len (base u : Nat) (hb : 2 ≤ base) (hu : u < 18446744073709551616) : (inBase base u).length ≤ 64 ∧ 1 ≤ (inBase base u).length := by
  have e := inUpTo_more base hb 63 u (pow64 base u hb hu)
  unfold inBase
  rw [e]
  exact inUpTo_len base 63 u
/-- What is written is read. -/
theorem inUpTo_read (base : Nat) (hb : 2 ≤ base) (h36 : base ≤ 36) (f : Nat) : ∀ u, u < base ^ (f + 1) → worthIn base (inUpTo base f u) = u ∧ allIn base (inUpTo base f u) = true := by
  induction f with
  | zero =>
    intro u h
    rw [Nat.zero_add, Nat.pow_one] at h
    simp [inUpTo, worthIn, allIn, digVal_byte u (by omega), h]
  | succ f ih =>
    intro u h
    rw [inUpTo]
    split
    · rename_i hu
      simp [worthIn, allIn, digVal_byte u (by omega), hu]
    · rename_i hu
      have h1 : u / base < base ^ (f + 1) := by
        apply Nat.div_lt_of_lt_mul
        rw [Nat.pow_succ, Nat.mul_comm] at h
        exact h
      have h2 := ih (u / base) h1
      have h3 : u % base < base := Nat.mod_lt _ (by omega)
      rw [worthIn_snoc, allIn_snoc, h2.1, h2.2, digVal_byte _ (by omega), decide_eq_true h3]
      refine ⟨?_, rfl⟩
      rw [Nat.mul_comm]; exact Nat.div_add_mod u base
theorem inBase_read (base u : Nat) (hb : 2 ≤ base) (h36 : base ≤ 36) (hu : u < 18446744073709551616) : worthIn base (inBase base u) = u ∧ allIn base (inBase base u) = true :=
  inUpTo_read base hb h36 64 u (Nat.lt_of_lt_of_le (pow64 base u hb hu) (Nat.pow_le_pow_right (by omega) (by omega)))
/-- A digit is no sign, blank or tab. -/
theorem digByte_plain (d : Nat) (h : d < 36) : digByte d ≠ 45 ∧ digByte d ≠ 43 ∧ digByte d ≠ 32 ∧ digByte d ≠ 9 := by
  have key : ∀ d : Fin 36, digByte d.val ≠ 45 ∧ digByte d.val ≠ 43 ∧ digByte d.val ≠ 32 ∧ digByte d.val ≠ 9 := by decide
  exact key ⟨d, h⟩
theorem inUpTo_plain (base : Nat) (hb : 2 ≤ base) (h36 : base ≤ 36) (f : Nat) : ∀ u, u < base ^ (f + 1) → ∀ b ∈ inUpTo base f u, b ≠ 45 ∧ b ≠ 43 ∧ b ≠ 32 ∧ b ≠ 9 := by
  induction f with
  | zero =>
    intro u h b hm
    rw [Nat.zero_add, Nat.pow_one] at h
    simp [inUpTo] at hm
    rw [hm]; exact digByte_plain u (by omega)
  | succ f ih =>
    intro u h b hm
    rw [inUpTo] at hm
    split at hm
    · simp at hm
      rw [hm]; exact digByte_plain u (by omega)
    · have h1 : u / base < base ^ (f + 1) := by
        apply Nat.div_lt_of_lt_mul
        rw [Nat.pow_succ, Nat.mul_comm] at h
        exact h
      rcases List.mem_append.1 hm with hm | hm
      · exact ih _ h1 b hm
      · simp at hm
        rw [hm]; exact digByte_plain _ (by have := Nat.mod_lt u (show 0 < base by omega); omega)
theorem inBase_plain (base u : Nat) (hb : 2 ≤ base) (h36 : base ≤ 36) (hu : u < 18446744073709551616) : ∀ b ∈ inBase base u, b ≠ 45 ∧ b ≠ 43 ∧ b ≠ 32 ∧ b ≠ 9 :=
  inUpTo_plain base hb h36 64 u (Nat.lt_of_lt_of_le (pow64 base u hb hu) (Nat.pow_le_pow_right (by omega) (by omega)))
/-- A number in a base, with its sign. -/
def baseText (base : Nat) (n : Int) : List UInt8 := if n < 0 then 45 :: inBase base n.natAbs else inBase base n.natAbs
theorem decDigits_is (u : Nat) (hu : u < 18446744073709551616) : Lib.decDigits u = inBase 10 u := by
  induction u using Nat.strongRecOn with
  | _ u ih =>
    rw [Lib.decDigits]
    split
    · rename_i h
      rw [inBase_small 10 u h]
      simp [digByte, h]
    · rename_i h
      rw [ih (u / 10) (by omega) (by omega), inBase_step 10 u (by omega) hu (by omega)]
      have : u % 10 < 10 := by omega
      simp [digByte, this]
theorem itoa_is (n : Int) (hn : in64 n) : Lib.itoa n = baseText 10 n := by
  unfold in64 at hn
  unfold Lib.itoa baseText
  split
  · rw [decDigits_is _ (by omega)]
  · rw [decDigits_is _ (by omega), show n.toNat = n.natAbs by omega]
end Go.Proofs.YtfjbafdgjpdbdaaDoor
