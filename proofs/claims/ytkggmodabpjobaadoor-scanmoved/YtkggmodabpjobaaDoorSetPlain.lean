/- Plain facts on sets of bytes as four words: no Go text. -/
import Derived.WalkKit
namespace Go.Proofs.YtkggmodabpjobaaDoor

/-- The number whose bit i is f i, for i below n. -/
def bu (f : Nat → Bool) : Nat → Nat
  | 0 => 0
  | n + 1 => bu f n + (if f n then 2 ^ n else 0)
theorem bu_lt (f : Nat → Bool) : ∀ n, bu f n < 2 ^ n
  | 0 => by simp [bu]
  | n + 1 => by
    have := bu_lt f n
    simp only [bu]
    rw [Nat.pow_succ]
    split <;> omega
theorem bu_bit (f : Nat → Bool) : ∀ n i, (bu f n).testBit i = (decide (i < n) && f i)
  | 0, i => by simp [bu]
  | n + 1, i => by
    have hlt := bu_lt f n
    have ih := bu_bit f n i
    simp only [bu]
    cases hf : f n with
    | false =>
      simp only [Bool.false_eq_true, if_false, Nat.add_zero]
      rw [ih]
      by_cases h : i = n
      · subst h; simp [hf]
      · have : decide (i < n + 1) = decide (i < n) := by simp; omega
        rw [this]
    | true =>
      simp only [if_true]
      rw [Nat.add_comm]
      by_cases h : i = n
      · subst h
        rw [Nat.testBit_two_pow_add_eq, ih]
        simp [hf]
      · by_cases h2 : i < n
        · rw [Nat.testBit_two_pow_add_gt h2, ih]
          have : decide (i < n + 1) = decide (i < n) := by simp; omega
          rw [this]
        · have h3 : 2 ^ n + bu f n < 2 ^ i := by
            have : 2 ^ (n + 1) ≤ 2 ^ i := Nat.pow_le_pow_right (by omega) (by omega)
            rw [Nat.pow_succ] at this
            omega
          rw [Nat.testBit_lt_two_pow h3]
          have : decide (i < n + 1) = false := by simp; omega
          rw [this]; rfl
theorem bu_of (x n : Nat) (h : x < 2 ^ n) : bu x.testBit n = x := by
  apply Nat.eq_of_testBit_eq
  intro i
  rw [bu_bit]
  by_cases hi : i < n
  · simp [hi]
  · have : x < 2 ^ i := Nat.lt_of_lt_of_le h (Nat.pow_le_pow_right (by omega) (by omega))
    simp [hi, Nat.testBit_lt_two_pow this]
theorem bu_congr {f g : Nat → Bool} {n : Nat} (h : ∀ i, i < n → f i = g i) : bu f n = bu g n := by
  apply Nat.eq_of_testBit_eq
  intro i
  rw [bu_bit, bu_bit]
  by_cases hi : i < n
  · simp [hi, h i hi]
  · simp [hi]

/-- Word k of a set. -/
def wd (p : Nat → Bool) (k : Nat) : Nat := bu (fun i => p (64 * k + i)) 64
theorem wd_lt (p : Nat → Bool) (k : Nat) : wd p k < 18446744073709551616 := bu_lt _ 64
theorem wd_bit (p : Nat → Bool) (k i : Nat) : (wd p k).testBit i = (decide (i < 64) && p (64 * k + i)) := bu_bit _ 64 i
theorem wd_congr {p q : Nat → Bool} {k : Nat} (hk : k < 4) (h : ∀ b, b < 256 → p b = q b) : wd p k = wd q k := bu_congr fun i hi => h _ (by omega)
def u64v (n : Nat) : Value := .int .u64 (n : Int)
/-- A set's four cells, and the set as a value. -/
def sc (p : Nat → Bool) : Array Value := #[u64v (wd p 0), u64v (wd p 1), u64v (wd p 2), u64v (wd p 3)]
def sv (p : Nat → Bool) : Value := .agg (sc p)
theorem sc_size (p : Nat → Bool) : (sc p).size = 4 := rfl
theorem sc_one (p : Nat → Bool) : (sc p).all (·.oneCell') = true := by simp [sc, u64v, Value.oneCell']
theorem sc_at (p : Nat → Bool) (k : Nat) (h : k < 4) : (sc p)[k]? = some (.int .u64 (wd p k : Int)) := by
  match k, h with
  | 0, _ => rfl
  | 1, _ => rfl
  | 2, _ => rfl
  | 3, _ => rfl
theorem sc_congr {p q : Nat → Bool} (h : ∀ b, b < 256 → p b = q b) : sc p = sc q := by
  unfold sc
  rw [wd_congr (k := 0) (by omega) h, wd_congr (k := 1) (by omega) h, wd_congr (k := 2) (by omega) h, wd_congr (k := 3) (by omega) h]
theorem sv_congr {p q : Nat → Bool} (h : ∀ b, b < 256 → p b = q b) : sv p = sv q := by unfold sv; rw [sc_congr h]
/-- Four words' cells. -/
def wc (f : Nat → Nat) : Array Value := #[.int .u64 (f 0 : Int), .int .u64 (f 1 : Int), .int .u64 (f 2 : Int), .int .u64 (f 3 : Int)]
theorem sc_wc (p : Nat → Bool) : sc p = wc (wd p) := rfl
theorem wc_size (f : Nat → Nat) : (wc f).size = 4 := rfl
theorem wc_one (f : Nat → Nat) : (wc f).all (·.oneCell') = true := by simp [wc, Value.oneCell']
theorem wc_at (f : Nat → Nat) (k : Nat) (h : k < 4) : (wc f)[k]? = some (.int .u64 (f k : Int)) := by
  match k, h with
  | 0, _ => rfl
  | 1, _ => rfl
  | 2, _ => rfl
  | 3, _ => rfl
theorem wc_set (f : Nat → Nat) (k v : Nat) (h : k < 4) : (wc f).setIfInBounds k (.int .u64 (v : Int)) = wc fun i => if i = k then v else f i := by
  match k, h with
  | 0, _ => rfl
  | 1, _ => rfl
  | 2, _ => rfl
  | 3, _ => rfl
theorem wc_congr {f g : Nat → Nat} (h : ∀ k, k < 4 → f k = g k) : wc f = wc g := by
  unfold wc
  rw [h 0 (by omega), h 1 (by omega), h 2 (by omega), h 3 (by omega)]
/-- The first k words are there, the others nought. -/
def upTo (k : Nat) (f : Nat → Nat) : Nat → Nat := fun i => if i < k then f i else 0
theorem upTo_step (k : Nat) (f : Nat → Nat) (h : k < 4) : (wc (upTo k f)).setIfInBounds k (.int .u64 (f k : Int)) = wc (upTo (k + 1) f) := by
  rw [wc_set _ _ _ h]
  apply wc_congr
  intro i _
  unfold upTo
  by_cases e : i = k
  · subst e; simp
  · rw [if_neg e]
    by_cases h2 : i < k
    · rw [if_pos h2, if_pos (by omega)]
    · rw [if_neg h2, if_neg (by omega)]
theorem upTo_end (f : Nat → Nat) : wc (upTo 4 f) = wc f := wc_congr fun i hi => by unfold upTo; rw [if_pos hi]
/-- Four numbers as a set. -/
def ofWords (a0 a1 a2 a3 : Nat) (b : Nat) : Bool :=
  if b < 64 then a0.testBit b else if b < 128 then a1.testBit (b - 64) else if b < 192 then a2.testBit (b - 128) else a3.testBit (b - 192)
theorem wd_of (p : Nat → Bool) (a k : Nat) (ha : a < 18446744073709551616) (h : ∀ i, i < 64 → p (64 * k + i) = a.testBit i) : wd p k = a := by
  unfold wd
  rw [bu_congr h]
  exact bu_of a 64 ha
theorem sc_of (a0 a1 a2 a3 : Nat) (h0 : a0 < 18446744073709551616) (h1 : a1 < 18446744073709551616) (h2 : a2 < 18446744073709551616) (h3 : a3 < 18446744073709551616) :
    sc (ofWords a0 a1 a2 a3) = #[u64v a0, u64v a1, u64v a2, u64v a3] := by
  unfold sc
  rw [wd_of _ a0 0 h0 ?_, wd_of _ a1 1 h1 ?_, wd_of _ a2 2 h2 ?_, wd_of _ a3 3 h3 ?_]
  · intro i hi; unfold ofWords; rw [if_neg (by omega), if_neg (by omega), if_neg (by omega), show 64 * 3 + i - 192 = i by omega]
  · intro i hi; unfold ofWords; rw [if_neg (by omega), if_neg (by omega), if_pos (by omega), show 64 * 2 + i - 128 = i by omega]
  · intro i hi; unfold ofWords; rw [if_neg (by omega), if_pos (by omega), show 64 * 1 + i - 64 = i by omega]
  · intro i hi; unfold ofWords; rw [if_pos (by omega), show 64 * 0 + i = i by omega]
end Go.Proofs.YtkggmodabpjobaaDoor
