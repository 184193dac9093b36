/- What numbers.Power, Gcd and Root do, for every number. -/
import Derived.Test.YtfjbafdgjpdbdaaNumsMul
import Derived.Deep.QuietTactic
import Derived.BigQuiet
import Derived.Deep.RegionWith
namespace Go.Proofs.Ytfjbafdgjpdbdaa
open Go.RowKit

/-- A power, where it is a number. -/
def powSaid (a n : Int) : Int × Int := if n < 0 then (0, 6) else within (a ^ n.toNat)
theorem natAbs_pow (a : Int) (k : Nat) : (a ^ k).natAbs = a.natAbs ^ k := Int.natAbs_pow a k
theorem pow_small (a : Int) (k : Nat) (h : a.natAbs ≤ 1) : in64 (a ^ k) := by
  have h1 : (a ^ k).natAbs ≤ 1 := by
    rw [natAbs_pow]
    calc a.natAbs ^ k ≤ 1 ^ k := Nat.pow_le_pow_left h k
      _ = 1 := Nat.one_pow k
  unfold in64; omega
theorem pow_out (a : Int) (k n : Nat) (h : ¬ in64 (a ^ k)) (hk : k ≤ n) : ¬ in64 (a ^ n) := by
  have h2 : 2 ≤ a.natAbs := by
    by_cases h1 : a.natAbs ≤ 1
    · exact absurd (pow_small a k h1) h
    · omega
  by_cases e : n = k
  · subst e; exact h
  · have hge : 9223372036854775808 ≤ (a ^ k).natAbs := by unfold in64 at h; omega
    have hm : (a ^ n).natAbs = (a ^ k).natAbs * a.natAbs ^ (n - k) := by
      rw [natAbs_pow, natAbs_pow, ← Nat.pow_add]; congr 1; omega
    have h3 : 2 ≤ a.natAbs ^ (n - k) := by
      calc 2 ≤ a.natAbs := h2
        _ = a.natAbs ^ 1 := (Nat.pow_one _).symm
        _ ≤ a.natAbs ^ (n - k) := Nat.pow_le_pow_right (by omega) (by omega)
    have h4 : 9223372036854775808 * 2 ≤ (a ^ n).natAbs := by rw [hm]; exact Nat.mul_le_mul hge h3
    unfold in64; omega
theorem pow_great (a : Int) (n : Nat) (h : 2 ≤ a.natAbs) (hn : 64 ≤ n) : ¬ in64 (a ^ n) := by
  have h1 : 2 ^ 64 ≤ (a ^ n).natAbs := by
    rw [natAbs_pow]
    calc 2 ^ 64 ≤ a.natAbs ^ 64 := Nat.pow_le_pow_left h 64
      _ ≤ a.natAbs ^ n := Nat.pow_le_pow_right (by omega) hn
  unfold in64; omega
theorem pow_even (a : Int) (n : Nat) (h : a.natAbs ≤ 1) (hn : 64 ≤ n) : a ^ n = a ^ (62 + n % 2) := by
  have hs : a * a = 1 ∨ a = 0 := by
    have : a = 0 ∨ a = 1 ∨ a = -1 := by omega
    rcases this with rfl | rfl | rfl
    · right; rfl
    · left; rfl
    · left; rfl
  rcases hs with hs | rfl
  · have h2 : ∀ k, a ^ (2 * k) = 1 := by
      intro k
      rw [Int.pow_mul, show a ^ 2 = a * a by rw [Int.pow_succ, Int.pow_succ, Int.pow_zero, Int.one_mul], hs, Int.one_pow]
    have e1 : n = 2 * (n / 2) + n % 2 := by omega
    rw [e1, Int.pow_add, h2, show 62 + (2 * (n / 2) + n % 2) % 2 = 2 * 31 + n % 2 by omega, Int.pow_add, h2]
  · rw [Int.zero_pow (by omega), Int.zero_pow (by omega)]

set_option maxHeartbeats 400000 in
theorem power_loop (a : Int) (n : Nat) (w : World) (ha : in64 a) (hn : n ≤ 63) :
    Calls Try.prog 15 #[.int .i64 a, .int .i64 n] w fun e w' => e = .returned (pairOf (within (a ^ n))) ∧ w' = w := by
  go_enter Try.func15, Try.ntmps15
  go_wp2
  go_loop [6, 7, 22] (fun p q i => ∃ (k : Nat) (x : Int), k ≤ n ∧ p = .int .i64 x ∧ q = .int .i64 0 ∧ i = .int .i64 k ∧ Hid (x = a ^ k) ∧ Hid (in64 x)) (fun p q i => n - (intOf i).toNat)
  case atStart => exact ⟨0, 1, Nat.zero_le _, rfl, rfl, rfl, hide (Int.pow_zero a).symm, by show in64 1; unfold in64; decide⟩
  case round =>
    obtain ⟨k, x, hk, rfl, rfl, rfl, H, H1⟩ := hrel
    by_cases hlt : k < n
    · have C := hide (mul_any x a w (unhide H1) ha)
      have hx := hide (show x * a = a ^ (k + 1) by rw [unhide H, ← Int.pow_succ])
      by_cases h : in64 (x * a)
      · rw [within_in _ h] at C
        have H2 := hide h
        generalize x * a = q at *
        clear h
        go_wp2_with fail
        refine (unhide C).mono ?_
        rintro e w ⟨rfl, rfl⟩
        go_wp2
        go_round
        case rel => exact ⟨k + 1, q, by omega, rfl, rfl, by go_num, hx, H2⟩
        case measure => simp [intOf]; omega
      · rw [within_out _ h] at C
        have H2 := hide (within_out _ (pow_out a (k + 1) n (by rw [← unhide hx]; exact h) (by omega)))
        clear h hx
        go_wp2_with fail
        refine (unhide C).mono ?_
        rintro e w ⟨rfl, rfl⟩
        go_wp2
        go_ret2
        exact ⟨ret_pair (unhide H2), rfl⟩
    · obtain rfl : k = n := by omega
      have H2 := hide (show within (a ^ k) = (x, 0) by rw [← unhide H]; exact within_in _ (unhide H1))
      go_wp2
      go_ret2
      exact ⟨ret_pair (unhide H2), rfl⟩

set_option maxHeartbeats 400000 in
theorem power_any (a n : Int) (w : World) (ha : in64 a) (hn : in64 n) :
    Calls Try.prog 15 #[.int .i64 a, .int .i64 n] w fun e w' => e = .returned (pairOf (powSaid a n)) ∧ w' = w := by
  unfold in64 at hn
  unfold powSaid
  by_cases h0 : n < 0
  · rw [if_pos h0]
    go_enter Try.func15, Try.ntmps15
    go_wp2
    go_ret2
    exact ⟨rfl, rfl⟩
  · rw [if_neg h0]
    obtain ⟨k, rfl⟩ : ∃ k : Nat, n = k := ⟨n.toNat, by omega⟩
    rw [Int.toNat_natCast]
    by_cases h1 : k ≤ 63
    · exact power_loop a k w ha h1
    · by_cases h2 : a < -1
      · have H := hide (within_out _ (pow_great a k (by omega) (by omega)))
        go_enter Try.func15, Try.ntmps15
        go_wp2
        go_ret2
        exact ⟨ret_pair (unhide H), rfl⟩
      · by_cases h3 : 1 < a
        · have H := hide (within_out _ (pow_great a k (by omega) (by omega)))
          go_enter Try.func15, Try.ntmps15
          go_wp2
          go_ret2
          exact ⟨ret_pair (unhide H), rfl⟩
        · have H := hide (pow_even a k (by omega) (by omega))
          have hs := fun j => hide (pow_small a j (by omega))
          have hm2 : k % 2 < 2 := by omega
          obtain ⟨j, hj⟩ : ∃ j, j = k % 2 := ⟨_, rfl⟩
          have hm : (k : Int) % 2 = (j : Int) := by omega
          rw [← hj] at hm2 H
          have HE := H
          clear H hj hs
          go_enter Try.func15, Try.ntmps15
          go_wp2
          go_loop [6, 7, 22] (fun p q i => ∃ (k' : Nat) (x : Int), k' ≤ 62 + j ∧ p = .int .i64 x ∧ q = .int .i64 0 ∧ i = .int .i64 k' ∧ Hid (x = a ^ k') ∧ Hid (in64 x)) (fun p q i => 62 + j - (intOf i).toNat)
          case atStart => exact ⟨0, 1, Nat.zero_le _, rfl, rfl, rfl, hide (Int.pow_zero a).symm, by show in64 1; unfold in64; decide⟩
          case round =>
            obtain ⟨k', x, hk, rfl, rfl, rfl, H, H1⟩ := hrel
            by_cases hlt : k' < 62 + j
            · have C := hide (mul_any x a w (unhide H1) ha)
              have hx := hide (show x * a = a ^ (k' + 1) by rw [unhide H, ← Int.pow_succ])
              by_cases h : in64 (x * a)
              · rw [within_in _ h] at C
                have H2 := hide h
                generalize x * a = q at *
                clear h
                go_wp2_with fail
                refine (unhide C).mono ?_
                rintro e w ⟨rfl, rfl⟩
                go_wp2
                go_round
                case rel => exact ⟨k' + 1, q, by omega, rfl, rfl, by go_num, hx, H2⟩
                case measure => simp [intOf]; omega
              · rw [within_out _ h] at C
                have H2 := hide (show within (a ^ k) = (0, 3) by rw [unhide HE]; exact within_out _ (pow_out a (k' + 1) (62 + j) (by rw [← unhide hx]; exact h) (by omega)))
                clear h hx
                go_wp2_with fail
                refine (unhide C).mono ?_
                rintro e w ⟨rfl, rfl⟩
                go_wp2
                go_ret2
                exact ⟨ret_pair (unhide H2), rfl⟩
            · obtain rfl : k' = 62 + j := by omega
              have H2 := hide (show within (a ^ k) = (x, 0) by rw [unhide HE, ← unhide H]; exact within_in _ (unhide H1))
              go_wp2
              go_ret2
              exact ⟨ret_pair (unhide H2), rfl⟩

/-- The greatest divisor of both, where it is a number. -/
def gcdSaid (a b : Int) : Int × Int := within (Nat.gcd a.natAbs b.natAbs : Int)

set_option maxHeartbeats 400000 in
theorem gcd_any (a b : Int) (w : World) (ha : in64 a) (hb : in64 b) :
    Calls Try.prog 17 #[.int .i64 a, .int .i64 b] w fun e w' => e = .returned (pairOf (gcdSaid a b)) ∧ Below w.heap.size w w' := by
  have C1 := hide (size_any a w ha)
  have C2 := hide (size_any b w hb)
  have l1 := natAbs_lt ha
  have l2 := natAbs_lt hb
  unfold gcdSaid
  generalize a.natAbs = m at *
  generalize b.natAbs = n at *
  go_enter Try.func17, Try.ntmps17
  go_wp2_with fail
  refine (unhide C1).mono ?_
  rintro e w ⟨rfl, rfl⟩
  go_wp2_with fail
  refine (unhide C2).mono ?_
  rintro e w ⟨rfl, rfl⟩
  go_wp2
  go_loopw [6, 7] (fun p q wr => ∃ (x y : Nat), x < 18446744073709551616 ∧ y < 18446744073709551616 ∧ p = .int .u64 x ∧ q = .int .u64 y ∧ Hid (Nat.gcd x y = Nat.gcd m n) ∧ Below w.heap.size w wr) (fun p q _ => (intOf q).toNat)
  case atStart => exact ⟨m, n, l1, l2, rfl, rfl, hide rfl, Below.refl _ _⟩
  case round =>
    obtain ⟨x, y, hx, hy, rfl, rfl, H, hb⟩ := hrel
    by_cases h0 : y = 0
    · subst h0
      have C3 := hide (signed_any x false wr hx)
      have H2 := hide (show Nat.gcd m n = x by rw [← unhide H]; exact Nat.gcd_zero_right x)
      have H3 := hide (show within (Nat.gcd m n : Int) = ((within (x : Int)).1, (within (x : Int)).2) by rw [unhide H2])
      simp only [Bool.false_eq_true, if_false] at C3
      go_wp2_with fail
      refine (unhide C3).mono ?_
      rintro e wr ⟨rfl, rfl⟩
      go_wp2
      go_ret2
      exact ⟨ret_pair (unhide H3), hb⟩
    · have hm : ((x : Int)).tmod y = ((x % y : Nat) : Int) := by rw [Int.tmod_eq_emod_of_nonneg (by omega)]; rfl
      have H2 := hide (show Nat.gcd y (x % y) = Nat.gcd m n by rw [← unhide H, Nat.gcd_comm x y, Nat.gcd_rec y x, Nat.gcd_comm])
      have hl : x % y < y := Nat.mod_lt _ (by omega)
      generalize x % y = z at *
      go_wp2
      go_region
      go_wp2
      go_round
      case rel => exact ⟨y, z, hy, by omega, rfl, rfl, H2, hb.drew⟩
      case measure => simp [intOf]; omega

set_option maxHeartbeats 400000 in
theorem root_below (a : Int) (w : World) (h : a < 0) :
    Calls Try.prog 19 #[.int .i64 a] w fun e w' => e = .returned (pairOf (0, 6)) ∧ w' = w := by
  go_enter Try.func19, Try.ntmps19
  go_wp2
  go_ret2
  exact ⟨rfl, rfl⟩

set_option maxHeartbeats 400000 in
theorem root_any (a : Nat) (w : World) (h : a ≤ 9223372036854775807) :
    Calls Try.prog 19 #[.int .i64 a] w fun e w' => (∃ r : Nat, r ≤ 3037000499 ∧ r * r ≤ a ∧ a < (r + 1) * (r + 1) ∧ e = .returned (pairOf (r, 0))) ∧ w' = w := by
  go_enter Try.func19, Try.ntmps19
  go_wp2
  go_loop [4, 5] (fun p q => ∃ (x y : Nat), x ≤ y ∧ y ≤ 3037000499 ∧ p = .int .i64 x ∧ q = .int .i64 y ∧ Hid (x * x ≤ a) ∧ Hid (a < (y + 1) * (y + 1))) (fun p q => (intOf q - intOf p).toNat)
  case atStart => exact ⟨0, 3037000499, by omega, by omega, rfl, rfl, hide (Nat.zero_le _), hide (by omega)⟩
  case round =>
    obtain ⟨x, y, hxy, hy, rfl, rfl, H1, H2⟩ := hrel
    by_cases hlt : x < y
    · obtain ⟨m, hm⟩ : ∃ m, m = (x + y + 1) / 2 := ⟨_, rfl⟩
      have hm1 : ((x : Int) + y + 1).tdiv 2 = (m : Int) := by rw [Int.tdiv_eq_ediv_of_nonneg (by omega)]; omega
      have hm2 : x < m ∧ m ≤ y := by omega
      have hmm : m * m ≤ 9223372036854775807 := by
        have := Nat.mul_le_mul (show m ≤ 3037000499 by omega) (show m ≤ 3037000499 by omega)
        omega
      have hmc : (m : Int) * m = ((m * m : Nat) : Int) := by rw [Int.natCast_mul]
      obtain ⟨s, hs⟩ : ∃ s, s = m * m := ⟨_, rfl⟩
      rw [← hs] at hmm hmc
      have HS := hide hs
      clear hs hm
      by_cases hc : s ≤ a
      · go_wp2
        go_round
        case rel => exact ⟨m, y, hm2.2, hy, rfl, rfl, hide (by rw [← unhide HS]; exact hc), H2⟩
        case measure => simp [intOf]; omega
      · go_wp2
        go_round
        case rel => exact ⟨x, m - 1, by omega, by omega, rfl, by rw [show ((m - 1 : Nat) : Int) = (m : Int) - 1 by omega], H1, hide (by rw [show m - 1 + 1 = m by omega, ← unhide HS]; omega)⟩
        case measure => simp [intOf]; omega
    · go_wp2
      go_ret2
      exact ⟨⟨x, by omega, unhide H1, by have := unhide H2; obtain rfl : x = y := by omega
                                         exact this, rfl⟩, rfl⟩
end Go.Proofs.Ytfjbafdgjpdbdaa
