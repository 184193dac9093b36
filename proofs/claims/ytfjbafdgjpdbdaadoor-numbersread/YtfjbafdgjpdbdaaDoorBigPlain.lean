/- Plain facts on numbers by words of 32 bits, the least first: lists of numbers, no Go text. -/
import Derived.WalkKit
namespace Go.Proofs.YtfjbafdgjpdbdaaDoor

/-- What a list of words is worth. -/
def val : List Nat → Nat
  | [] => 0
  | x :: r => x + 4294967296 * val r
/-- A number's words, without a nought at the end; so many at most. -/
def wordsUpTo : Nat → Nat → List Nat
  | 0, _ => []
  | f + 1, n => if n = 0 then [] else n % 4294967296 :: wordsUpTo f (n / 4294967296)
theorem wordsUpTo_more (f : Nat) : ∀ g n, n ≤ f → n ≤ g → wordsUpTo f n = wordsUpTo g n := by
  induction f with
  | zero =>
    intro g n h _
    obtain rfl : n = 0 := by omega
    cases g <;> simp [wordsUpTo]
  | succ f ih =>
    intro g n h h'
    by_cases h0 : n = 0
    · subst h0; cases g <;> simp [wordsUpTo]
    · cases g with
      | zero => omega
      | succ g =>
        simp only [wordsUpTo, if_neg h0]
        rw [ih g (n / 4294967296) (by omega) (by omega)]
/-- A number's words, without a nought at the end. -/
def wordsOf (n : Nat) : List Nat := wordsUpTo n n
theorem wordsOf_zero : wordsOf 0 = [] := rfl
theorem wordsOf_pos (n : Nat) (h : n ≠ 0) : wordsOf n = n % 4294967296 :: wordsOf (n / 4294967296) := by
  cases n with
  | zero => omega
  | succ k =>
    show wordsUpTo (k + 1) (k + 1) = _
    simp only [wordsUpTo, if_neg h]
    rw [wordsUpTo_more k ((k + 1) / 4294967296) ((k + 1) / 4294967296) (by omega) (Nat.le_refl _)]
    rfl
theorem val_wordsOf (n : Nat) : val (wordsOf n) = n := by
  induction n using Nat.strongRecOn with
  | _ n ih =>
    by_cases h : n = 0
    · subst h; rw [wordsOf_zero]; rfl
    · rw [wordsOf_pos n h]
      show n % 4294967296 + 4294967296 * val (wordsOf (n / 4294967296)) = n
      rw [ih _ (by omega)]; omega
/-- All words are ones of 32 bits. -/
def small (ws : List Nat) : Prop := ∀ x ∈ ws, x < 4294967296
theorem small_wordsOf (n : Nat) : small (wordsOf n) := by
  induction n using Nat.strongRecOn with
  | _ n ih =>
    by_cases h : n = 0
    · subst h; rw [wordsOf_zero]; intro x hx; simp at hx
    · rw [wordsOf_pos n h]
      intro x hx
      rcases List.mem_cons.1 hx with rfl | hx
      · omega
      · exact ih _ (by omega) x hx
theorem val_append (a b : List Nat) : val (a ++ b) = val a + 4294967296 ^ a.length * val b := by
  induction a with
  | nil => simp [val]
  | cons x r ih =>
    simp only [List.cons_append, val, ih, List.length_cons, Nat.pow_succ]
    rw [Nat.mul_add, Nat.mul_comm (4294967296 ^ r.length) 4294967296, Nat.mul_assoc]; omega
theorem val_zeros (k : Nat) : val (List.replicate k 0) = 0 := by
  induction k with
  | zero => rfl
  | succ k ih => simp [List.replicate_succ, val, ih]
theorem val_lt (ws : List Nat) (h : small ws) : val ws < 4294967296 ^ ws.length := by
  induction ws with
  | nil => simp [val]
  | cons x r ih =>
    have h1 := ih (fun y hy => h y (List.mem_cons_of_mem _ hy))
    have h2 := h x (List.mem_cons_self ..)
    simp only [val, List.length_cons, Nat.pow_succ]
    omega
theorem wordsOf_val (ws : List Nat) (h : small ws) (hl : ws.getLast? ≠ some 0) : wordsOf (val ws) = ws := by
  induction ws with
  | nil => exact wordsOf_zero
  | cons x r ih =>
    have hx := h x (List.mem_cons_self ..)
    have hr : small r := fun y hy => h y (List.mem_cons_of_mem _ hy)
    cases r with
    | nil =>
      have : x ≠ 0 := by intro e; subst e; exact hl rfl
      show wordsOf (x + 4294967296 * 0) = [x]
      rw [Nat.mul_zero, Nat.add_zero, wordsOf_pos x this, show x % 4294967296 = x by omega, show x / 4294967296 = 0 by omega, wordsOf_zero]
    | cons y s =>
      have hl2 : (y :: s).getLast? ≠ some 0 := by rw [List.getLast?_cons_cons] at hl; exact hl
      have i := ih hr hl2
      have hne : val (y :: s) ≠ 0 := by
        intro e
        rw [e, wordsOf_zero] at i
        cases i
      show wordsOf (x + 4294967296 * val (y :: s)) = x :: y :: s
      rw [wordsOf_pos _ (by omega), show (x + 4294967296 * val (y :: s)) % 4294967296 = x by omega, show (x + 4294967296 * val (y :: s)) / 4294967296 = val (y :: s) by omega, i]
theorem wordsOf_length_le (n k : Nat) (h : n < 4294967296 ^ k) : (wordsOf n).length ≤ k := by
  induction k generalizing n with
  | zero => simp at h; subst h; simp [wordsOf_zero]
  | succ k ih =>
    by_cases h0 : n = 0
    · subst h0; simp [wordsOf_zero]
    · rw [wordsOf_pos n h0]
      have := ih (n / 4294967296) (by rw [Nat.pow_succ] at h; omega)
      simp; omega
theorem lt_wordsOf (n : Nat) : n < 4294967296 ^ (wordsOf n).length := by
  have := val_lt (wordsOf n) (small_wordsOf n)
  rwa [val_wordsOf] at this
theorem wordsOf_at (n j : Nat) : (wordsOf n).getD j 0 = n / 4294967296 ^ j % 4294967296 := by
  induction j generalizing n with
  | zero =>
    by_cases h0 : n = 0
    · subst h0; simp [wordsOf_zero]
    · rw [wordsOf_pos n h0]; simp
  | succ j ih =>
    by_cases h0 : n = 0
    · subst h0; simp [wordsOf_zero]
    · rw [wordsOf_pos n h0, List.getD_cons_succ, ih, Nat.pow_succ, Nat.mul_comm, Nat.div_div_eq_div_mul]
theorem wordsOf_len_zero (n : Nat) : (wordsOf n).length = 0 ↔ n = 0 := by
  constructor
  · intro h
    by_cases h0 : n = 0
    · exact h0
    · rw [wordsOf_pos n h0] at h; simp at h
  · rintro rfl; simp [wordsOf_zero]
/-- The last word of a number that is not 0 is not 0. -/
theorem wordsOf_last (n : Nat) : (wordsOf n).getLast? ≠ some 0 := by
  induction n using Nat.strongRecOn with
  | _ n ih =>
    by_cases h : n = 0
    · subst h; simp [wordsOf_zero]
    · rw [wordsOf_pos n h]
      by_cases h2 : n / 4294967296 = 0
      · rw [h2, wordsOf_zero]; simp; omega
      · have := ih _ (show n / 4294967296 < n by omega)
        rw [wordsOf_pos _ h2] at this ⊢
        rw [List.getLast?_cons_cons]; exact this
theorem val_set (ws : List Nat) (k y : Nat) (h : k < ws.length) : val (ws.set k y) + ws.getD k 0 * 4294967296 ^ k = val ws + y * 4294967296 ^ k := by
  induction ws generalizing k with
  | nil => simp at h
  | cons x r ih =>
    cases k with
    | zero => simp [val]; omega
    | succ k =>
      have := ih k (by simpa using h)
      simp only [List.set_cons_succ, val, List.getD_cons_succ, Nat.pow_succ]
      rw [← Nat.mul_assoc, ← Nat.mul_assoc]
      generalize 4294967296 ^ k = P at *
      generalize r.getD k 0 * P = A at *
      generalize y * P = B at *
      omega
/-- The rest of a number by a power of the words' size, one word more. -/
theorem mod_step (n i : Nat) : n % 4294967296 ^ (i + 1) = n % 4294967296 ^ i + n / 4294967296 ^ i % 4294967296 * 4294967296 ^ i := by
  rw [Nat.pow_succ, Nat.mod_mul, Nat.mul_comm (4294967296 ^ i)]
theorem val_take (ws : List Nat) (k : Nat) (h : ∀ j, k ≤ j → j < ws.length → ws.getD j 0 = 0) (hk : k ≤ ws.length) : val (ws.take k) = val ws := by
  have e : ws.drop k = List.replicate (ws.length - k) 0 := by
    apply List.eq_replicate_iff.2
    refine ⟨by simp, fun b hb => ?_⟩
    obtain ⟨j, hj, rfl⟩ := List.getElem_of_mem hb
    have := h (k + j) (by omega) (by simp at hj; omega)
    rw [List.getElem_drop]
    rwa [List.getD_eq_getElem?_getD, List.getElem?_eq_getElem (by simp at hj; omega)] at this
  have e2 := List.take_append_drop k ws
  have e3 := val_append (ws.take k) (ws.drop k)
  rw [e2, e, val_zeros, Nat.mul_zero, Nat.add_zero] at e3
  exact e3.symm
end Go.Proofs.YtfjbafdgjpdbdaaDoor
