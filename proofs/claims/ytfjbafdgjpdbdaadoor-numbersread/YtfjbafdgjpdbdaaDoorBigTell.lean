/- What Uint64, Int64, bit, TrailingZeroBits and IsInt64 tell of the document's numbers. -/
import Derived.Test.YtfjbafdgjpdbdaaDoorBigIntOps
import Derived.Laws.BitsLemmas
namespace Go.Proofs.YtfjbafdgjpdbdaaDoor
open Go.RowKit

set_option maxHeartbeats 400000 in
theorem uint64_any (x : Nat) (n : Int) (w : World) (hx : IntAt w x n) (hm : n.natAbs < 18446744073709551616) :
    Calls Tryd.prog 52 #[ptr x] w fun e w' => e = .returned (.int .u64 (n.natAbs : Int)) ∧ w' = w := by
  obtain ⟨u, hxr, hu⟩ := hx
  have x1 : w.cell? ⟨x, 1, none⟩ = some u := by rw [cell_row hxr]; rfl
  clear hxr
  generalize n.natAbs = m at *
  obtain ⟨a, ca, rfl, hca, Ha⟩ := hu.slice
  have h2 := wordsOf_len_two hm
  have Z := wordsOf_len_zero m
  have hlt := lt_wordsOf m
  have hl : (wordsOf m).length = 0 ∨ (wordsOf m).length = 1 ∨ (wordsOf m).length = 2 := by omega
  rcases hl with h | h | h
  · have h0 := Z.1 h
    rw [h] at x1
    rw [h] at hca
    subst h0
    clear Ha hu Z hlt h h2
    go_enter Tryd.func52, Tryd.ntmps52
    go_wp2
    go_ret
    exact ⟨rfl, rfl⟩
  · obtain ⟨b, rfl, c0⟩ := Ha 0 (by omega)
    rw [wordsOf_at] at c0
    rw [h] at hca hlt x1
    have hm2 : m < 4294967296 := by omega
    rw [show m / 4294967296 ^ 0 % 4294967296 = m by rw [Nat.pow_zero, Nat.div_one]; omega] at c0
    clear Ha hu Z hlt h h2
    go_enter Tryd.func52, Tryd.ntmps52
    go_wp2
    go_ret
    exact ⟨rfl, rfl⟩
  · obtain ⟨b, rfl, c0⟩ := Ha 0 (by omega)
    obtain ⟨b', hb', c1⟩ := Ha 1 (by omega)
    cases hb'
    rw [wordsOf_at] at c0 c1
    rw [h] at hca x1
    rw [show m / 4294967296 ^ 0 % 4294967296 = m % 4294967296 by rw [Nat.pow_zero, Nat.div_one]] at c0
    rw [show m / 4294967296 ^ 1 % 4294967296 = m / 4294967296 by omega] at c1
    have hx : m % 4294967296 < 4294967296 := by omega
    have hy : m / 4294967296 < 4294967296 := by omega
    have hxy : m = m % 4294967296 + m / 4294967296 * 4294967296 := by omega
    obtain ⟨p, hxx⟩ : ∃ x, x = m % 4294967296 := ⟨_, rfl⟩
    obtain ⟨q, hyy⟩ : ∃ y, y = m / 4294967296 := ⟨_, rfl⟩
    rw [← hxx] at hx c0
    rw [← hyy] at hy c1
    rw [← hxx, ← hyy] at hxy
    have hor : bits BinOp.or IntKind.u64 (p : Int) ((q : Int) * 4294967296) = (m : Int) := by
      rw [u64_or32 _ _ (by omega) (by omega) (by omega) (by omega) (by omega)]; omega
    clear Ha hu Z hlt hxx hyy hxy h h2
    go_enter Tryd.func52, Tryd.ntmps52
    go_wp2
    go_ret
    exact ⟨rfl, rfl⟩

set_option maxHeartbeats 400000 in
theorem int64_any (x : Nat) (n : Int) (w : World) (hx : IntAt w x n) (hm : in64 n) :
    Calls Tryd.prog 31 #[ptr x] w fun e w' => e = .returned (.int .i64 n) ∧ w' = w := by
  have C := hide (uint64_any x n w hx (by unfold in64 at hm; omega))
  obtain ⟨u, hxr, hu⟩ := hx
  have x0 : w.cell? ⟨x, 0, none⟩ = some (.bool (decide (n < 0))) := by rw [cell_row hxr]; rfl
  clear hxr hu
  by_cases h : n < 0
  · rw [decide_eq_true h] at x0
    have H := hide (show wrap64 (-wrap64 (n.natAbs : Int)) = n by rw [wrap64_negs _ (by unfold in64 at hm; omega)]; omega)
    go_enter Tryd.func31, Tryd.ntmps31
    go_wp2_with fail
    refine (unhide C).mono ?_
    rintro e w ⟨rfl, rfl⟩
    generalize n.natAbs = m at *
    go_wp2
    go_ret
    exact ⟨by rw [← unhide H]; rfl, rfl⟩
  · rw [decide_eq_false h] at x0
    rw [show (n.natAbs : Int) = n by omega] at C
    have H := hide (IntWalk.wrap64_in n hm)
    go_enter Tryd.func31, Tryd.ntmps31
    go_wp2_with fail
    refine (unhide C).mono ?_
    rintro e w ⟨rfl, rfl⟩
    go_wp2
    go_ret
    exact ⟨ret_int (unhide H), rfl⟩

theorem u64_odd (x : Nat) (h : x < 18446744073709551616) : bits BinOp.and IntKind.u64 (x : Int) 1 = ((x % 2 : Nat) : Int) := by
  have := bits_mask .u64 64 (by decide) wraps_u64 1 (by decide) (x : Int) (by omega) (by omega)
  simpa using this
theorem u64_small (q : Nat) (h : q < 18446744073709551616) : IntKind.u64.wrap (q : Int) = (q : Int) := IntWalk.u64_in _ (by omega)
theorem low_bit (m i : Nat) (h : i < 32) : m % 4294967296 / 2 ^ i % 2 = m / 2 ^ i % 2 := by
  have e : (4294967296 : Nat) = 2 ^ i * 2 ^ (32 - i) := by rw [← Nat.pow_add, show i + (32 - i) = 32 by omega]
  rw [e, Nat.mod_mul_right_div_self]
  obtain ⟨k, hk⟩ : ∃ k, 32 - i = k + 1 := ⟨31 - i, by omega⟩
  rw [hk, Nat.pow_succ, Nat.mul_comm, Nat.mod_mul_right_mod]
theorem pow_bit (m k : Nat) (h : m % 2 ^ k = 0) : (m / 2 ^ k % 2 = 0 → m % 2 ^ (k + 1) = 0) ∧ True := by
  refine ⟨fun hb => ?_, trivial⟩
  rw [Nat.pow_succ, Nat.mod_mul, h, hb, Nat.mul_zero]

set_option maxHeartbeats 400000 in
theorem bit_any (m i : Nat) (u : Value) (w : World) (hu : NumAt w u m) (hm : m < 18446744073709551616) (hm2 : 4294967296 ≤ m) (hi : i < 64) :
    Calls Tryd.prog 80 #[u, .int .i64 i] w fun e w' => e = .returned (.int .u64 ((m / 2 ^ i % 2 : Nat) : Int)) ∧ w' = w := by
  obtain ⟨a, ca, rfl, hca, Ha⟩ := hu.slice
  have hl : (wordsOf m).length = 2 := by
    have h2 := wordsOf_len_two hm
    have hlt := lt_wordsOf m
    have : (wordsOf m).length = 0 ∨ (wordsOf m).length = 1 ∨ (wordsOf m).length = 2 := by omega
    rcases this with h | h | h
    · rw [h] at hlt; omega
    · rw [h] at hlt; omega
    · exact h
  obtain ⟨b, rfl, c0⟩ := Ha 0 (by omega)
  obtain ⟨b', hb', c1⟩ := Ha 1 (by omega)
  cases hb'
  rw [wordsOf_at] at c0 c1
  rw [hl] at hca
  rw [hl]
  rw [show m / 4294967296 ^ 0 % 4294967296 = m % 4294967296 by rw [Nat.pow_zero, Nat.div_one]] at c0
  rw [show m / 4294967296 ^ 1 % 4294967296 = m / 4294967296 by omega] at c1
  clear Ha hu hl
  have hp : 0 < 2 ^ (i % 32) := Nat.pow_pos (by decide)
  by_cases h : i < 32
  · have e1 : ((i : Int)).tdiv 32 = 0 := by rw [Int.tdiv_eq_ediv_of_nonneg (by omega)]; omega
    have H := hide (show bits BinOp.and IntKind.u64 (IntKind.u64.wrap ((m : Int) % 4294967296 / 2 ^ (i % 32))) 1 = ((m / 2 ^ i % 2 : Nat) : Int) by
      have hq : (m : Int) % 4294967296 / 2 ^ (i % 32) = ((m % 4294967296 / 2 ^ (i % 32) : Nat) : Int) := by rw [Int.natCast_ediv, Int.natCast_emod, Int.natCast_pow]; rfl
      have hlt : m % 4294967296 / 2 ^ (i % 32) < 18446744073709551616 := Nat.lt_of_le_of_lt (Nat.div_le_self _ _) (by omega)
      rw [hq, u64_small _ hlt, u64_odd _ hlt, show i % 32 = i by omega]
      congr 1
      exact low_bit m i h)
    go_enter Tryd.func80, Tryd.ntmps80
    go_wp2
    go_ret
    exact ⟨ret_u64 (unhide H), rfl⟩
  · have e1 : ((i : Int)).tdiv 32 = 1 := by rw [Int.tdiv_eq_ediv_of_nonneg (by omega)]; omega
    have H := hide (show bits BinOp.and IntKind.u64 (IntKind.u64.wrap ((m : Int) / 4294967296 / 2 ^ (i % 32))) 1 = ((m / 2 ^ i % 2 : Nat) : Int) by
      have hq : (m : Int) / 4294967296 / 2 ^ (i % 32) = ((m / 4294967296 / 2 ^ (i % 32) : Nat) : Int) := by rw [Int.natCast_ediv, Int.natCast_ediv, Int.natCast_pow]; rfl
      have hlt : m / 4294967296 / 2 ^ (i % 32) < 18446744073709551616 := Nat.lt_of_le_of_lt (Nat.div_le_self _ _) (by omega)
      rw [hq, u64_small _ hlt, u64_odd _ hlt]
      congr 2
      rw [Nat.div_div_eq_div_mul, show (4294967296 : Nat) = 2 ^ 32 by decide, ← Nat.pow_add, show 32 + i % 32 = i by omega])
    go_enter Tryd.func80, Tryd.ntmps80
    go_wp2
    go_ret
    exact ⟨ret_u64 (unhide H), rfl⟩

set_option maxHeartbeats 400000 in
theorem trailing_any (x : Nat) (n : Int) (w : World) (hx : IntAt w x n) (hm : n.natAbs < 18446744073709551616) (hm2 : 4294967296 ≤ n.natAbs) :
    Calls Tryd.prog 61 #[ptr x] w fun e w' => (∃ t : Nat, e = .returned (.int .u64 (t : Int)) ∧ t < 64 ∧ n.natAbs % 2 ^ t = 0 ∧ n.natAbs / 2 ^ t % 2 = 1) ∧ w' = w := by
  obtain ⟨u, hxr, hu⟩ := hx
  have x1 : w.cell? ⟨x, 1, none⟩ = some u := by rw [cell_row hxr]; rfl
  clear hxr
  generalize n.natAbs = m at *
  have C := fun i => hide (bit_any m i u w hu hm hm2)
  obtain ⟨a, ca, rfl, hca, _⟩ := hu.slice
  have hl : (wordsOf m).length ≠ 0 := fun e => by have := (wordsOf_len_zero m).1 e; omega
  have hl2 := wordsOf_len_two hm
  generalize (wordsOf m).length = p at *
  have d1 : ((p : Int) == 0) = false := by simp; omega
  have HM := hide hm
  have HM2 := hide hm2
  clear hu hm hm2
  go_enter Tryd.func61, Tryd.ntmps61
  go_wp2
  go_loop [3] (fun i => ∃ k : Nat, k < 64 ∧ i = .int .u64 k ∧ Hid (m % 2 ^ k = 0)) (fun i => 64 - (intOf i).toNat)
  case atStart => exact ⟨0, by omega, rfl, hide (by simp [Nat.mod_one])⟩
  case round =>
    obtain ⟨k, hk, rfl, H⟩ := hrel
    have Ck := hide (unhide (C k) hk)
    have hst := pow_bit m k (unhide H)
    by_cases hb : m / 2 ^ k % 2 = 0
    · rw [hb] at Ck
      have H1 := hide (hst.1 hb)
      have hk2 : k + 1 < 64 := by
        by_cases hh : k + 1 < 64
        · exact hh
        · obtain rfl : k = 63 := by omega
          have h1 := hst.1 hb
          have h2 := unhide HM
          have h3 := unhide HM2
          omega
      clear hst hb
      go_wp2_with fail
      refine (unhide Ck).mono ?_
      rintro e w ⟨rfl, rfl⟩
      go_wp2
      go_round
      case rel => exact ⟨k + 1, hk2, by go_num, H1⟩
      case measure => simp [intOf]; omega
    · have hb1 : m / 2 ^ k % 2 = 1 := by omega
      rw [hb1] at Ck
      have HB := hide hb1
      clear hst hb hb1
      go_wp2_with fail
      refine (unhide Ck).mono ?_
      rintro e w ⟨rfl, rfl⟩
      go_wp2
      go_ret
      exact ⟨⟨k, rfl, hk, unhide H, unhide HB⟩, rfl⟩


theorem bits_64 {m L : Nat} (h : bitsOf m L) : (m < 9223372036854775808 ↔ L < 64) ∧ (m < 18446744073709551616 ↔ L < 65) := by
  obtain ⟨h1, h2, h3⟩ := h
  have key : ∀ K, 0 < K → (m < 2 ^ K ↔ L < K + 1) := by
    intro K hK
    constructor
    · intro hm
      by_cases h0 : m = 0
      · have := h2 h0; omega
      · obtain ⟨h4, h5⟩ := h3 (by omega)
        by_cases hh : L < K + 1
        · exact hh
        · have := Nat.pow_le_pow_right (n := 2) (by decide) (show K ≤ L - 1 by omega)
          omega
    · intro hL
      exact Nat.lt_of_lt_of_le h1 (Nat.pow_le_pow_right (by decide) (by omega))
  exact ⟨key 63 (by decide), key 64 (by decide)⟩
theorem trail_63 {m t : Nat} (h1 : 9223372036854775808 ≤ m) (h2 : m < 18446744073709551616) (ht : t < 64) (h3 : m % 2 ^ t = 0) (h4 : m / 2 ^ t % 2 = 1) : t = 63 ↔ m = 9223372036854775808 := by
  constructor
  · rintro rfl; omega
  · rintro rfl
    by_cases hh : t = 63
    · exact hh
    · exfalso
      have e : (9223372036854775808 : Nat) = 2 ^ t * 2 ^ (63 - t) := by rw [← Nat.pow_add, show t + (63 - t) = 63 by omega]
      rw [e, Nat.mul_div_cancel_left _ (Nat.pow_pos (by decide))] at h4
      obtain ⟨k, hk⟩ : ∃ k, 63 - t = k + 1 := ⟨62 - t, by omega⟩
      rw [hk, Nat.pow_succ] at h4
      omega
theorem ret_bool {a b : Bool} (h : a = b) : Ending.returned (.bool a) = .returned (.bool b) := by rw [h]

set_option maxHeartbeats 1000000 in
theorem isInt64_any (x : Nat) (n : Int) (w : World) (hx : IntAt w x n) (lm : (wordsOf n.natAbs).length ≤ 100000000) :
    Calls Tryd.prog 48 #[ptr x] w fun e w' => e = .returned (.bool (decide (-9223372036854775808 ≤ n ∧ n ≤ 9223372036854775807))) ∧ w' = w := by
  have CT := hide (trailing_any x n w hx)
  obtain ⟨u, hxr, hu⟩ := hx
  have x0 : w.cell? ⟨x, 0, none⟩ = some (.bool (decide (n < 0))) := by rw [cell_row hxr]; rfl
  have x1 : w.cell? ⟨x, 1, none⟩ = some u := by rw [cell_row hxr]; rfl
  have C := hide (length_any n.natAbs u w hu lm)
  clear hxr hu
  obtain ⟨d, hd⟩ : ∃ d, d = decide (-9223372036854775808 ≤ n ∧ n ≤ 9223372036854775807) := ⟨_, rfl⟩
  rw [← hd]
  have HD := hide hd
  clear hd
  go_enter Tryd.func48, Tryd.ntmps48
  go_wp2_with fail
  refine (unhide C).mono ?_
  rintro e w ⟨⟨L, rfl, hL, hL2⟩, rfl⟩
  have hb := bits_64 hL
  clear hL
  by_cases h1 : n.natAbs < 9223372036854775808
  · have hl := hb.1.1 h1
    have H := hide (show d = true by rw [unhide HD]; exact decide_eq_true (by omega))
    clear hb h1
    go_wp2
    go_ret
    exact ⟨ret_bool (unhide H).symm, rfl⟩
  · by_cases h2 : n.natAbs < 18446744073709551616
    · obtain rfl : L = 64 := by omega
      by_cases h3 : n < 0
      · rw [decide_eq_true h3] at x0
        have CT2 := hide (unhide CT h2 (by omega))
        clear hb
        go_wp2_with fail
        refine (unhide CT2).mono ?_
        rintro e w ⟨⟨t, rfl, t1, t2, t3⟩, rfl⟩
        have ht := trail_63 (by omega) h2 t1 t2 t3
        have H := hide (show ((t : Int) == 63) = d by
          rw [unhide HD]
          by_cases e : t = 63
          · have := ht.1 e
            subst e
            rw [decide_eq_true (by omega)]; rfl
          · have : ¬ n.natAbs = 9223372036854775808 := fun h => e (ht.2 h)
            rw [decide_eq_false (by omega)]
            simp; omega)
        clear ht t2 t3
        go_wp2
        go_ret
        exact ⟨ret_bool (unhide H), rfl⟩
      · rw [decide_eq_false h3] at x0
        have H := hide (show d = false by rw [unhide HD]; exact decide_eq_false (by omega))
        clear hb
        go_wp2
        go_ret
        exact ⟨ret_bool (unhide H).symm, rfl⟩
    · have hl : 64 < L := by omega
      have d1 : decide ((L : Int) < 64) = false := decide_eq_false (by omega)
      have d2 : ((L : Int) == 64) = false := by simp; omega
      have H := hide (show d = false by rw [unhide HD]; exact decide_eq_false (by omega))
      clear hb h1 h2
      go_wp2
      go_ret
      exact ⟨ret_bool (unhide H).symm, rfl⟩

set_option maxHeartbeats 400000 in
theorem refWithin_any (x : Nat) (n : Int) (w : World) (hx : IntAt w x n) (lm : (wordsOf n.natAbs).length ≤ 100000000) :
    Calls Tryd.prog 24 #[ptr x] w fun e w' => e = .returned (pairOf (within n)) ∧ w' = w := by
  have C := hide (isInt64_any x n w hx lm)
  by_cases h : in64 n
  · have C2 := hide (int64_any x n w hx h)
    rw [within_in _ h]
    rw [decide_eq_true (show -9223372036854775808 ≤ n ∧ n ≤ 9223372036854775807 from h)] at C
    go_enter Tryd.func24, Tryd.ntmps24
    go_wp2_with fail
    refine (unhide C).mono ?_
    rintro e w ⟨rfl, rfl⟩
    go_wp2_with fail
    refine (unhide C2).mono ?_
    rintro e w ⟨rfl, rfl⟩
    go_wp2
    go_ret2
    exact ⟨rfl, rfl⟩
  · rw [within_out _ h]
    rw [decide_eq_false (show ¬ (-9223372036854775808 ≤ n ∧ n ≤ 9223372036854775807) from h)] at C
    go_enter Tryd.func24, Tryd.ntmps24
    go_wp2_with fail
    refine (unhide C).mono ?_
    rintro e w ⟨rfl, rfl⟩
    go_wp2
    go_ret2
    exact ⟨rfl, rfl⟩

set_option maxHeartbeats 400000 in
theorem refBig_any (n : Int) (w : World) (hn : in64 n) :
    Calls Tryd.prog 27 #[.int .i64 n] w fun e w' => e = .returned (ptr w.heap.size) ∧ IntAt w' w.heap.size n ∧ Below w.heap.size w w' := by
  have C := hide (newInt_any n w hn)
  go_enter Tryd.func27, Tryd.ntmps27
  go_wp2_with fail
  refine (unhide C).mono ?_
  rintro e w1 ⟨rfl, hi, hb⟩
  go_wp2
  go_ret
  exact ⟨rfl, hi, hb⟩
end Go.Proofs.YtfjbafdgjpdbdaaDoor
