/- Plain facts on numbers written in digits: lists of bytes, no Go text. -/
import Derived.Test.YtfjbafdgjpdbdaaDoorNums
namespace Go.Proofs.YtfjbafdgjpdbdaaDoor

/-- What a digit counts; what is none counts 36. -/
def digVal (b : UInt8) : Nat := if 48 ≤ b.toNat ∧ b.toNat ≤ 57 then b.toNat - 48 else if 97 ≤ b.toNat ∧ b.toNat ≤ 122 then b.toNat - 87 else 36
theorem digVal_le (b : UInt8) : digVal b ≤ 36 := by unfold digVal; split <;> (try split) <;> omega
/-- What digits are worth. -/
def worthIn (base : Nat) (l : List UInt8) : Nat := l.foldl (fun a b => a * base + digVal b) 0
/-- All are digits of the base. -/
def allIn (base : Nat) (l : List UInt8) : Bool := l.all fun b => decide (digVal b < base)
theorem worthIn_snoc (base : Nat) (l : List UInt8) (b : UInt8) : worthIn base (l ++ [b]) = worthIn base l * base + digVal b := by simp [worthIn, List.foldl_append]
theorem allIn_snoc (base : Nat) (l : List UInt8) (b : UInt8) : allIn base (l ++ [b]) = (allIn base l && decide (digVal b < base)) := by simp [allIn, List.all_append]
theorem worthIn_mono (base : Nat) (hb : 1 ≤ base) (l m : List UInt8) : worthIn base l ≤ worthIn base (l ++ m) := by
  induction m generalizing l with
  | nil => simp
  | cons b m ih =>
    have h1 := ih (l ++ [b])
    rw [List.append_assoc, List.singleton_append] at h1
    have h2 : worthIn base l ≤ worthIn base (l ++ [b]) := by
      rw [worthIn_snoc]
      have := Nat.le_mul_of_pos_right (worthIn base l) hb
      omega
    omega
theorem allIn_head (base : Nat) (l m : List UInt8) (h : allIn base (l ++ m) = true) : allIn base l = true := by
  simp only [allIn, List.all_append, Bool.and_eq_true] at h ⊢; exact h.1
theorem worthIn_from (base : Nat) (l : List UInt8) : ∀ a, allIn base l = true → l.foldl (fun a b => a * base + digVal b) a + 1 ≤ (a + 1) * base ^ l.length := by
  induction l with
  | nil => intro a _; simp
  | cons b l ih =>
    intro a h
    simp only [allIn, List.all_cons, Bool.and_eq_true, decide_eq_true_eq] at h
    have h1 := ih (a * base + digVal b) h.2
    rw [List.foldl_cons, List.length_cons, Nat.pow_succ, Nat.mul_comm (base ^ l.length), ← Nat.mul_assoc]
    refine Nat.le_trans h1 (Nat.mul_le_mul_right _ ?_)
    rw [Nat.add_mul]; omega
theorem worthIn_lt (base : Nat) (l : List UInt8) (h : allIn base l = true) : worthIn base l < base ^ l.length := by
  have := worthIn_from base l 0 h
  rw [Nat.zero_add, Nat.one_mul] at this
  exact this
/-- What digits tell, with a sign. -/
def digitsSaid (base : Nat) (l : List UInt8) (s : Bool) : Int × Int := if l.isEmpty || !allIn base l then (0, 2) else within (if s then -(worthIn base l : Int) else (worthIn base l : Int))
theorem digitsSaid_bad (base : Nat) (l : List UInt8) (s : Bool) (h : allIn base l = false) : digitsSaid base l s = (0, 2) := by simp [digitsSaid, h]
theorem digitsSaid_ok (base : Nat) (l : List UInt8) (s : Bool) (h0 : l ≠ []) (h : allIn base l = true) : digitsSaid base l s = within (if s then -(worthIn base l : Int) else (worthIn base l : Int)) := by
  have : l.isEmpty = false := by cases l with | nil => exact absurd rfl h0 | cons _ _ => rfl
  simp [digitsSaid, h, this]
theorem digitsSaid_great (base : Nat) (l : List UInt8) (s : Bool) (h0 : l ≠ []) (h : allIn base l = true) (hg : 18446744073709551616 ≤ worthIn base l) : digitsSaid base l s = (0, 3) := by
  rw [digitsSaid_ok base l s h0 h, within_out]
  unfold in64
  cases s
  · simp only [Bool.false_eq_true, if_false]; omega
  · simp only [if_true]; omega
theorem over_test (sum d base : Nat) (hb : 1 ≤ base) (hd : d < 37) : (18446744073709551615 - d) / base < sum ↔ 18446744073709551616 ≤ sum * base + d := by
  rw [Nat.div_lt_iff_lt_mul (by omega)]
  omega
end Go.Proofs.YtfjbafdgjpdbdaaDoor
