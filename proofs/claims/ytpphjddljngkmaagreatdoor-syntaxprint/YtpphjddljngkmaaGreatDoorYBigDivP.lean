/- What plain, length and div do: of numbers of 64 bits, the divisor too. -/
import Derived.Test.YtpphjddljngkmaaGreatDoorYBigTwinM
import Derived.Lib.EndianBits
namespace Go.Proofs.YtpphjddljngkmaaGreatDoor
open Go.RowKit

theorem wordsOf_len_two {m : Nat} (h : m < 18446744073709551616) : (wordsOf m).length ≤ 2 := wordsOf_length_le m 2 (by omega)
set_option maxHeartbeats 400000 in
theorem plain_any (m : Nat) (u : Value) (w : World) (hu : NumAt w u m) (hm : m < 18446744073709551616) :
    Calls Tryz.prog 93 #[u] w fun e w' => e = .returned (.int .u64 (m : Int)) ∧ w' = w := by
  obtain ⟨a, ca, rfl, hca, Ha⟩ := hu.slice
  have h2 := wordsOf_len_two hm
  have Z := wordsOf_len_zero m
  have hlt := lt_wordsOf m
  have hl : (wordsOf m).length = 0 ∨ (wordsOf m).length = 1 ∨ (wordsOf m).length = 2 := by omega
  rcases hl with h | h | h
  · have h0 := Z.1 h
    rw [h]
    rw [h] at hca
    subst h0
    clear Ha hu Z hlt h h2
    go_enter Tryz.func93, Tryz.ntmps93
    go_wp2
    go_ret
    exact ⟨rfl, rfl⟩
  · obtain ⟨b, rfl, c0⟩ := Ha 0 (by omega)
    rw [wordsOf_at] at c0
    rw [h] at hca hlt
    rw [h]
    have hm2 : m < 4294967296 := by omega
    rw [show m / 4294967296 ^ 0 % 4294967296 = m by rw [Nat.pow_zero, Nat.div_one]; omega] at c0
    clear Ha hu Z hlt h h2
    go_enter Tryz.func93, Tryz.ntmps93
    go_wp2
    go_ret
    exact ⟨rfl, rfl⟩
  · obtain ⟨b, rfl, c0⟩ := Ha 0 (by omega)
    obtain ⟨b', hb', c1⟩ := Ha 1 (by omega)
    cases hb'
    rw [wordsOf_at] at c0 c1
    rw [h] at hca
    rw [h]
    rw [show m / 4294967296 ^ 0 % 4294967296 = m % 4294967296 by rw [Nat.pow_zero, Nat.div_one]] at c0
    rw [show m / 4294967296 ^ 1 % 4294967296 = m / 4294967296 by omega] at c1
    have hx : m % 4294967296 < 4294967296 := by omega
    have hy : m / 4294967296 < 4294967296 := by omega
    have hxy : m = m % 4294967296 + m / 4294967296 * 4294967296 := by omega
    obtain ⟨x, hxx⟩ : ∃ x, x = m % 4294967296 := ⟨_, rfl⟩
    obtain ⟨y, hyy⟩ : ∃ y, y = m / 4294967296 := ⟨_, rfl⟩
    rw [← hxx] at hx c0
    rw [← hyy] at hy c1
    rw [← hxx, ← hyy] at hxy
    have hor : bits BinOp.or IntKind.u64 (x : Int) ((y : Int) * 4294967296) = (m : Int) := by
      rw [u64_or32 _ _ (by omega) (by omega) (by omega) (by omega) (by omega)]; omega
    clear Ha hu Z hlt hxx hyy hxy h h2
    go_enter Tryz.func93, Tryz.ntmps93
    go_wp2
    go_ret
    exact ⟨rfl, rfl⟩
/-- A length in bits. -/
def bitsOf (m L : Nat) : Prop := m < 2 ^ L ∧ (m = 0 → L = 0) ∧ (0 < m → 1 ≤ L ∧ 2 ^ (L - 1) ≤ m)
set_option maxHeartbeats 400000 in
theorem length_any (m : Nat) (u : Value) (w : World) (hu : NumAt w u m) (lm : (wordsOf m).length ≤ 100000000) :
    Calls Tryz.prog 97 #[u] w fun e w' => (∃ L : Nat, e = .returned (.int .i64 (L : Int)) ∧ bitsOf m L ∧ L ≤ 3200000000) ∧ w' = w := by
  obtain ⟨a, ca, rfl, hca, Ha⟩ := hu.slice
  have Z := wordsOf_len_zero m
  have hlt := lt_wordsOf m
  by_cases h0 : (wordsOf m).length = 0
  · have hm := Z.1 h0
    rw [h0] at hca
    rw [h0]
    subst hm
    clear Ha hu Z hlt h0 lm
    go_enter Tryz.func97, Tryz.ntmps97
    go_wp2
    go_ret
    exact ⟨⟨0, rfl, ⟨by simp, fun _ => rfl, fun h => by omega⟩, by omega⟩, rfl⟩
  · obtain ⟨l, hl⟩ : ∃ l, (wordsOf m).length = l + 1 := ⟨(wordsOf m).length - 1, by omega⟩
    obtain ⟨b, rfl, c0⟩ := Ha l (by omega)
    rw [wordsOf_at] at c0
    rw [hl] at hca hlt lm
    rw [hl]
    have hd : m / 4294967296 ^ l < 4294967296 := by rw [Nat.pow_succ] at hlt; exact Nat.div_lt_of_lt_mul hlt
    rw [Nat.mod_eq_of_lt hd] at c0
    have hne : m / 4294967296 ^ l ≠ 0 := by
      intro e
      have h1 : m < 4294967296 ^ l := by
        have := Nat.lt_of_div_eq_zero (Nat.pow_pos (by decide)) e
        exact this
      have := wordsOf_length_le m l h1
      omega
    have HM := hideY (Nat.div_add_mod m (4294967296 ^ l))
    have HM2 := hideY (Nat.mod_lt m (Nat.pow_pos (n := l) (by decide : 0 < 4294967296)))
    obtain ⟨x, hxx⟩ : ∃ x, x = m / 4294967296 ^ l := ⟨_, rfl⟩
    rw [← hxx] at c0 hd hne HM
    clear Ha hu Z hlt hxx h0 hl
    have d1 : (((l + 1 : Nat) : Int) == 0) = false := by simp; omega
    go_enter Tryz.func97, Tryz.ntmps97
    go_wp2
    go_loop [3, 4] (fun n t => ∃ (k y : Nat), n = .int .i64 k ∧ t = .int .u32 y ∧ k ≤ 32 ∧ y < 4294967296 ∧ Hid (y = x / 2 ^ k) ∧ Hid (k = 0 ∨ 2 ^ (k - 1) ≤ x)) (fun n t => (intOf t).toNat)
    case atStart => exact ⟨0, x, rfl, rfl, by omega, hd, hideY (by simp), hideY (.inl rfl)⟩
    case round =>
      obtain ⟨k, y, rfl, rfl, hk, hy, H1, H2⟩ := hrel
      by_cases hy0 : y = 0
      · subst hy0
        have hx1 : x < 2 ^ k := Nat.lt_of_div_eq_zero (Nat.pow_pos (by decide)) (unhideY H1).symm
        have hk0 : k ≠ 0 := by rintro rfl; simp at hx1; omega
        have hx2 : 2 ^ (k - 1) ≤ x := by rcases unhideY H2 with h | h; exact absurd h hk0; exact h
        have HB : Hid (bitsOf m (l * 32 + k)) := by
          have e : (4294967296 : Nat) ^ l = 2 ^ (l * 32) := by rw [show (4294967296 : Nat) = 2 ^ 32 by decide, ← Nat.pow_mul, Nat.mul_comm]
          have h1 := unhideY HM
          have h2 := unhideY HM2
          rw [e] at h1 h2
          refine ⟨?_, fun h => ?_, fun _ => ⟨by omega, ?_⟩⟩
          · rw [Nat.pow_add]
            calc m < 2 ^ (l * 32) * x + 2 ^ (l * 32) := by omega
              _ = 2 ^ (l * 32) * (x + 1) := by rw [Nat.mul_add, Nat.mul_one]
              _ ≤ 2 ^ (l * 32) * 2 ^ k := Nat.mul_le_mul_left _ hx1
          · subst h
            have : 2 ^ (l * 32) * x = 0 := by omega
            rcases Nat.mul_eq_zero.1 this with h | h
            · exact absurd h (Nat.ne_of_gt (Nat.pow_pos (by decide)))
            · exact absurd h hne
          · rw [show l * 32 + k - 1 = l * 32 + (k - 1) by omega, Nat.pow_add]
            calc 2 ^ (l * 32) * 2 ^ (k - 1) ≤ 2 ^ (l * 32) * x := Nat.mul_le_mul_left _ hx2
              _ ≤ m := by omega
        clear hx1 hx2
        go_wp2
        go_ret
        exact ⟨⟨l * 32 + k, ret_intY (by omega), unhideY HB, by omega⟩, rfl⟩
      · have hk2 : k < 32 := by
          by_cases hh : k < 32
          · exact hh
          · obtain rfl : k = 32 := by omega
            have := unhideY H1
            omega
        have H3 := hideY (show y / 2 = x / 2 ^ (k + 1) by rw [unhideY H1, Nat.div_div_eq_div_mul, Nat.pow_succ])
        have H4 := hideY (show k + 1 = 0 ∨ 2 ^ (k + 1 - 1) ≤ x by
          right
          rw [Nat.add_sub_cancel]
          have := unhideY H1
          by_cases hh : 2 ^ k ≤ x
          · exact hh
          · rw [Nat.div_eq_of_lt (by omega)] at this; omega)
        go_wp2
        go_round
        case rel => exact ⟨k + 1, y / 2, by go_num, by congr 1, by omega, by omega, H3, H4⟩
        case measure => simp [intOf]; omega
set_option maxRecDepth 100000 in
set_option maxHeartbeats 1000000 in
theorem div_less (m n : Nat) (u v : Value) (w : World) (hu : NumAt w u m) (hv : NumAt w v n) (hm : m < 18446744073709551616) (hn : n < 18446744073709551616) (h : m < n) :
    Calls Tryz.prog 83 #[u, v] w fun e w' => (∃ q r, e = .returned (.tuple #[q, r]) ∧ NumAt w' q (m / n) ∧ NumAt w' r (m % n)) ∧ Below w.heap.size w w' := by
  have hl1 := wordsOf_len_two hm
  have hl2 := wordsOf_len_two hn
  have C1 := hideY (cmp_any m n u v w hu hv (by omega) (by omega))
  have C2 := fun w1 (hb : Below w.heap.size w w1) => hideY (twin_any m u w1 (hu.below hb) (by omega))
  rw [ordOf_lt h] at C1
  obtain ⟨a, ca, rfl, hca, _⟩ := hu.slice
  obtain ⟨b, cb, rfl, hcb, _⟩ := hv.slice
  have Z : (wordsOf n).length ≠ 0 := fun e => by have := (wordsOf_len_zero n).1 e; omega
  rw [Nat.div_eq_of_lt h, Nat.mod_eq_of_lt h]
  clear hu hv
  generalize (wordsOf m).length = p at *
  generalize (wordsOf n).length = q at *
  have d1 : ((q : Int) == 0) = false := by simp; omega
  clear Z h hm hn
  go_enter Tryz.func83, Tryz.ntmps83
  go_wp2_with fail
  refine (unhideY C1).mono ?_
  rintro e w1 ⟨rfl, hb⟩
  have C3 := C2 w1 hb
  go_wp2_with fail
  refine (unhideY C3).mono ?_
  rintro e w2 ⟨⟨r, rfl, hr⟩, hb2⟩
  go_wp2
  go_ret2
  exact ⟨⟨_, _, rfl, NumAt.nil _, hr⟩, bnextY hb hb2⟩
set_option maxRecDepth 100000 in
set_option maxHeartbeats 2000000 in
theorem div_most (m n : Nat) (u v : Value) (w : World) (hu : NumAt w u m) (hv : NumAt w v n) (hm : m < 18446744073709551616) (h0 : n ≠ 0) (h : n ≤ m) :
    Calls Tryz.prog 83 #[u, v] w fun e w' => (∃ q r, e = .returned (.tuple #[q, r]) ∧ NumAt w' q (m / n) ∧ NumAt w' r (m % n)) ∧ Below w.heap.size w w' := by
  have hn : n < 18446744073709551616 := by omega
  have hl1 := wordsOf_len_two hm
  have hl2 := wordsOf_len_two hn
  have C1 := hideY (cmp_any m n u v w hu hv (by omega) (by omega))
  have P1 := fun w1 (hb : Below w.heap.size w w1) => hideY (plain_any m u w1 (hu.below hb) hm)
  have P2 := fun w1 (hb : Below w.heap.size w w1) => hideY (plain_any n v w1 (hv.below hb) hn)
  have hqm : m / n ≤ m := Nat.div_le_self _ _
  have hrm : m % n ≤ m := Nat.mod_le _ _
  have W1 := fun w1 => hideY (words_any (m / n) w1 (by omega))
  have W2 := fun w1 => hideY (words_any (m % n) w1 (by omega))
  have ho : ordOf m n = 0 ∨ ordOf m n = 1 := by
    by_cases e : m = n
    · exact .inl (ordOf_eq e)
    · exact .inr (ordOf_gt (by omega))
  generalize ordOf m n = o at *
  obtain ⟨a, ca, rfl, hca, _⟩ := hu.slice
  obtain ⟨b, cb, rfl, hcb, _⟩ := hv.slice
  have Z : (wordsOf n).length ≠ 0 := fun e => by have := (wordsOf_len_zero n).1 e; omega
  clear hu hv
  generalize (wordsOf m).length = p at *
  generalize (wordsOf n).length = q at *
  have d1 : ((q : Int) == 0) = false := by simp; omega
  have hq : ((m : Int)).tdiv n = ((m / n : Nat) : Int) := by rw [Int.tdiv_eq_ediv_of_nonneg (by omega)]; rfl
  have hr : ((m : Int)).tmod n = ((m % n : Nat) : Int) := by rw [Int.tmod_eq_emod_of_nonneg (by omega)]; rfl
  have hq2 : ((m : Int)) / n = ((m / n : Nat) : Int) := rfl
  have hr2 : ((m : Int)) % n = ((m % n : Nat) : Int) := rfl
  generalize m / n = x at *
  generalize m % n = y at *
  have hwx := IntWalk.u64_in (x : Int) (by omega)
  have hwy := IntWalk.u64_in (y : Int) (by omega)
  clear Z h
  go_enter Tryz.func83, Tryz.ntmps83
  go_wp2_with fail
  refine (unhideY C1).mono ?_
  rintro e w1 ⟨rfl, hb⟩
  have P3 := P1 w1 hb
  have P4 := P2 w1 hb
  clear P1 P2 C1
  rcases ho with rfl | rfl
  all_goals
    go_wp2_with fail
    refine (unhideY P3).mono ?_
    rintro e w1 ⟨rfl, rfl⟩
    go_wp2_with fail
    refine (unhideY P4).mono ?_
    rintro e w1 ⟨rfl, rfl⟩
    go_wp2_with fail
    go_region_with (go_at_call 94; first | (with_reducible refine (unhideY (W1 _)).mono ?_; rintro e w2 ⟨⟨q1, rfl, hq1⟩, hb2⟩) | (with_reducible refine (unhideY (W2 _)).mono ?_; rintro e w3 ⟨⟨r1, rfl, hr1⟩, hb3⟩))
    all_goals go_wp2
    all_goals go_ret2
    all_goals exact ⟨⟨_, _, rfl, hq1.below hb3, hr1⟩, bnextY (bnextY hb.drew hb2) hb3⟩
theorem div_any2 (m n : Nat) (u v : Value) (w : World) (hu : NumAt w u m) (hv : NumAt w v n) (hm : m < 18446744073709551616) (hn : n < 18446744073709551616) (h0 : n ≠ 0) :
    Calls Tryz.prog 83 #[u, v] w fun e w' => (∃ q r, e = .returned (.tuple #[q, r]) ∧ NumAt w' q (m / n) ∧ NumAt w' r (m % n)) ∧ Below w.heap.size w w' := by
  by_cases h : m < n
  · exact div_less m n u v w hu hv hm hn h
  · exact div_most m n u v w hu hv hm h0 (by omega)
end Go.Proofs.YtpphjddljngkmaaGreatDoor
