/- What the document's own Power, Gcd and Root answer, for every number. -/
import Derived.Test.YtfjbafdgjpdbdaaRefReckon
import Derived.Test.YtfjbafdgjpdbdaaBigIntMul
import Derived.Test.YtfjbafdgjpdbdaaBigSqrt
import Derived.Test.YtfjbafdgjpdbdaaNumsPow
namespace Go.Proofs.Ytfjbafdgjpdbdaa
open Go.RowKit

set_option maxHeartbeats 1000000 in
theorem refGcd_any (a b : Int) (w : World) (ha : in64 a) (hb : in64 b) :
    Calls Try.prog 18 #[.int .i64 a, .int .i64 b] w fun e w' => e = .returned (pairOf (gcdSaid a b)) ∧ Below w.heap.size w w' := by
  have l1 := abs_len ha
  have l2 := abs_len hb
  unfold gcdSaid
  obtain ⟨g, hgg⟩ : ∃ g, g = Nat.gcd a.natAbs b.natAbs := ⟨_, rfl⟩
  rw [← hgg]
  have HGG := hide hgg
  clear hgg
  have F1 := one_fresh w
  have B1 := hide (refBig_any a (w.alloc newObj) ha)
  rw [F1.2.2] at B1
  have HF1 := hide F1
  clear F1
  go_enter Try.func18, Try.ntmps18
  go_wp2_with fail
  refine (unhide B1).mono ?_
  rintro e w1 ⟨rfl, hi1, hb1⟩
  have hb1' : Below (w.alloc newObj).heap.size (w.alloc newObj) w1 := by rw [(unhide HF1).2.2]; exact hb1
  have hz1 := (unhide HF1).1.block.below hb1'
  have hbw1 := bnext (unhide HF1).2.1 hb1'
  have A1 := hide (iabs_any w.heap.size (w.heap.size + 1) a w1 hz1 hi1 (by omega))
  clear B1 hb1 hb1' hi1 HF1
  go_wp2_with fail
  refine (unhide A1).mono ?_
  rintro e w2 ⟨rfl, hi2, hb2⟩
  have hbw2 := hbw1.trans (hb2.belowz (Nat.le_refl _) hbw1.size)
  have hl2 : w.heap.size < w2.heap.size := hi2.block.lt
  have F2 := one_fresh w2
  have B2 := hide (refBig_any b (w2.alloc newObj) hb)
  rw [F2.2.2] at B2
  have HI2 := hide (hi2.below F2.2.1)
  have HF2 := hide F2
  clear A1 hb2 hz1 hi2 hbw1 F2
  go_wp2_with fail
  refine (unhide B2).mono ?_
  rintro e w3 ⟨rfl, hi3, hb3⟩
  have hb3' : Below (w2.alloc newObj).heap.size (w2.alloc newObj) w3 := by rw [(unhide HF2).2.2]; exact hb3
  have hz3 := (unhide HF2).1.block.below hb3'
  have hw3 := bnext (unhide HF2).2.1 hb3'
  have hj2 := (unhide HI2).below hb3'
  have A2 := hide (iabs_any w2.heap.size (w2.heap.size + 1) b w3 hz3 hi3 (by omega))
  clear B2 hb3 hb3' hi3 HF2 HI2
  go_wp2_with fail
  refine (unhide A2).mono ?_
  rintro e w4 ⟨rfl, hi4, hb4⟩
  have hbw4 := bnext hbw2 (hw3.trans (hb4.belowz (Nat.le_refl _) hw3.size))
  have hj4 := hj2.but hb4 hz3 (by omega)
  have F4 := one_fresh w4
  have hl4 : w2.heap.size < w4.heap.size := hi4.block.lt
  have G := hide (igcd_fresh w4.heap.size w.heap.size w2.heap.size a.natAbs b.natAbs (w4.alloc newObj) F4.1.block (hj4.below F4.2.1) (hi4.below F4.2.1) (in64_abs ha) (in64_abs hb))
  have HF4 := hide F4
  have hgl : (wordsOf (Nat.gcd a.natAbs b.natAbs)).length ≤ 2 := by
    apply wordsOf_len_two
    have h1 := in64_abs ha
    have h2 := in64_abs hb
    by_cases h0 : a.natAbs = 0
    · rw [h0, Nat.gcd_zero_left]; exact h2
    · exact Nat.lt_of_le_of_lt (Nat.gcd_le_left _ (by omega)) h1
  rw [← unhide HGG] at G hgl
  clear A2 hb4 hz3 hj2 hi4 hj4 hw3 F4
  go_wp2_with fail
  refine (unhide G).mono ?_
  rintro e w5 ⟨rfl, hi5, hb5⟩
  have hbw5 := bnext hbw4 (But.below (unhide HF4).2.1 hb5 (Nat.le_refl _))
  have W := hide (refWithin_any w4.heap.size (g : Int) w5 hi5 (by rw [Int.natAbs_natCast]; omega))
  clear G HF4 hi5 hb5
  go_wp2_with fail
  refine (unhide W).mono ?_
  rintro e w5 ⟨rfl, rfl⟩
  go_wp2
  go_ret2
  exact ⟨rfl, hbw5⟩

set_option maxHeartbeats 400000 in
theorem refRoot_below (a : Int) (w : World) (h : a < 0) :
    Calls Try.prog 20 #[.int .i64 a] w fun e w' => e = .returned (pairOf (0, 6)) ∧ Below w.heap.size w w' := by
  go_enter Try.func20, Try.ntmps20
  go_wp2
  go_ret2
  exact ⟨rfl, Below.refl _ _⟩

set_option maxHeartbeats 1000000 in
theorem refRoot_any (a : Nat) (w : World) (h : a ≤ 9223372036854775807) :
    Calls Try.prog 20 #[.int .i64 a] w fun e w' => (∃ r : Nat, r * r ≤ a ∧ a < (r + 1) * (r + 1) ∧ e = .returned (pairOf (r, 0))) ∧ Below w.heap.size w w' := by
  have F1 := one_fresh w
  have B1 := hide (refBig_any (a : Int) (w.alloc newObj) (by unfold in64; omega))
  rw [F1.2.2] at B1
  have HF1 := hide F1
  clear F1
  go_enter Try.func20, Try.ntmps20
  go_wp2_with fail
  refine (unhide B1).mono ?_
  rintro e w1 ⟨rfl, hi1, hb1⟩
  have hb1' : Below (w.alloc newObj).heap.size (w.alloc newObj) w1 := by rw [(unhide HF1).2.2]; exact hb1
  have hz1 := (unhide HF1).1.block.below hb1'
  have hbw1 := bnext (unhide HF1).2.1 hb1'
  have S := hide (sqrt_fresh w.heap.size (w.heap.size + 1) a w1 hz1 hi1 (by omega))
  clear B1 hb1 hb1' hi1 HF1 hz1
  go_wp2_with fail
  refine (unhide S).mono ?_
  rintro e w2 ⟨⟨r, rfl, hi2, h1, h2⟩, hb2⟩
  have hbw2 := hbw1.trans (hb2.belowz (Nat.le_refl _) hbw1.size)
  have hr := root_small h1 (by omega)
  have W := hide (refWithin_any w.heap.size (r : Int) w2 hi2 (by rw [Int.natAbs_natCast]; exact Nat.le_trans (wordsOf_len_two (by omega)) (by decide)))
  rw [within_in _ (by unfold in64; omega)] at W
  have H1 := hide h1
  have H2 := hide h2
  clear S hi2 hb2 h1 h2
  go_wp2_with fail
  refine (unhide W).mono ?_
  rintro e w2 ⟨rfl, rfl⟩
  go_wp2
  go_ret2
  exact ⟨⟨r, unhide H1, unhide H2, rfl⟩, hbw2⟩

theorem root_one {a r s : Nat} (h1 : r * r ≤ a) (h2 : a < (r + 1) * (r + 1)) (h3 : s * s ≤ a) (h4 : a < (s + 1) * (s + 1)) : r = s := by
  by_cases h : r < s
  · have := Nat.mul_le_mul (show r + 1 ≤ s from h) (show r + 1 ≤ s from h)
    omega
  · by_cases h' : s < r
    · have := Nat.mul_le_mul (show s + 1 ≤ r from h') (show s + 1 ≤ r from h')
      omega
    · omega

/-- A power as the document's own loop leaves it: up to seventy factors. -/
theorem pow_cut (a : Int) (n : Nat) (h : 2 ≤ a.natAbs) : within (a ^ (min n 70)) = within (a ^ n) := by
  by_cases hn : n ≤ 70
  · rw [Nat.min_eq_left hn]
  · rw [Nat.min_eq_right (by omega), within_out _ (pow_great a 70 h (by omega)), within_out _ (pow_great a n h (by omega))]
theorem pow_len (a : Int) (k : Nat) (ha : in64 a) (hk : k ≤ 70) : (wordsOf (a ^ k).natAbs).length ≤ 140 := by
  apply wordsOf_length_le
  rw [natAbs_pow]
  have h1 : a.natAbs ^ k ≤ 9223372036854775808 ^ k := Nat.pow_le_pow_left (by unfold in64 at ha; omega) k
  have h2 : (9223372036854775808 : Nat) ^ k ≤ 9223372036854775808 ^ 70 := Nat.pow_le_pow_right (by decide) hk
  have h3 : (9223372036854775808 : Nat) ^ 70 < 4294967296 ^ 140 := by decide
  omega

set_option maxHeartbeats 2000000 in
theorem refPower_loop (a n : Int) (w : World) (ha : in64 a) (hn : in64 n) (h0 : 0 < n) (h2 : a ≠ 1) (h3 : a ≠ 0) (h4 : a ≠ -1) :
    Calls Try.prog 16 #[.int .i64 a, .int .i64 n] w fun e w' => e = .returned (pairOf (powSaid a n)) ∧ Below w.heap.size w w' := by
  have HP := hide (show powSaid a n = within (a ^ (min n.toNat 70)) by
    unfold powSaid
    rw [if_neg (by omega), pow_cut a n.toNat (by omega)])
  rw [unhide HP]
  obtain ⟨k0, rfl⟩ : ∃ k : Nat, n = k := ⟨n.toNat, by omega⟩
  rw [Int.toNat_natCast]
  have l1 := abs_len ha
  have B1 := hide (refBig_any 1 w (by unfold in64; decide))
  have BA := fun w => hide (refBig_any a w ha)
  have d1 : ((k0 : Int) == 0) = false := by simp; omega
  have d2 : (a == 1) = false := by simp [h2]
  have d3 : (a == 0) = false := by simp [h3]
  have d4 : (a == -1) = false := by simp [h4]
  unfold in64 at hn
  go_enter Try.func16, Try.ntmps16
  go_wp2_with fail
  refine (unhide B1).mono ?_
  rintro e w1 ⟨rfl, hi1, hb1⟩
  have HI1 := hide hi1
  clear hi1 B1 HP
  go_wp2
  go_loopw [7] (fun i wr => ∃ k : Nat, k ≤ k0 ∧ k ≤ 70 ∧ i = .int .i64 k ∧ Hid (IntAt wr w.heap.size (a ^ k)) ∧ Below w.heap.size w wr) (fun i _ => k0 - (intOf i).toNat)
  case atStart => exact ⟨0, by omega, by omega, rfl, by rw [Int.pow_zero]; exact HI1, hb1⟩
  case round =>
    clear HI1
    obtain ⟨k, hk, hk2, rfl, I, hb⟩ := hrel
    by_cases hlt : k < k0 ∧ k < 70
    · obtain ⟨hl1, hl2⟩ := hlt
      have HL := pow_len a k ha hk2
      have hlw := (unhide I).block.lt
      have e1 : (k : Int) < k0 := by omega
      go_wp2_with fail
      refine (unhide (BA _)).mono ?_
      rintro e w2 ⟨rfl, hi2, hb2⟩
      have hI2 := (unhide I).below hb2
      have M := hide (imul_any w.heap.size w.heap.size wr.heap.size (a ^ k) a w2 hI2.block hI2 hi2 (by omega) (by omega))
      rw [← Int.pow_succ] at M
      have hbw2 := bnext hb hb2
      clear hI2 hi2 hb2
      go_wp2_with fail
      refine (unhide M).mono ?_
      rintro e w3 ⟨rfl, hi3, hb3⟩
      have HI3 := hide hi3
      have hbw3 := hbw2.trans (hb3.belowz (Nat.le_refl _) hbw2.size)
      clear hi3 hb3 M
      go_wp2
      go_roundw
      case rel => exact ⟨k + 1, by omega, by omega, by go_num, HI3, hbw3⟩
      case measure => simp [intOf]; omega
    · have hmin : min k0 70 = k := by omega
      have HL := pow_len a k ha hk2
      have W := hide (refWithin_any w.heap.size (a ^ k) wr (unhide I) (by omega))
      have HM := hide hmin
      have hcase : ¬ k < k0 ∨ (k < k0 ∧ k = 70) := by omega
      clear hlt hmin
      rcases hcase with hc | ⟨hc, rfl⟩
      all_goals
        go_wp2_with fail
        refine (unhide W).mono ?_
        rintro e w3 ⟨rfl, rfl⟩
        go_wp2
        go_ret2
        exact ⟨by rw [unhide HM]; rfl, hb⟩

theorem pow_sign (n : Nat) : (-1 : Int) ^ n = 1 - 2 * ((n : Int) % 2) := by
  have h2 : ∀ k, (-1 : Int) ^ (2 * k) = 1 := by
    intro k
    rw [Int.pow_mul, show (-1 : Int) ^ 2 = 1 from rfl, Int.one_pow]
  have e : n = 2 * (n / 2) + n % 2 := by omega
  have h3 : n % 2 = 0 ∨ n % 2 = 1 := by omega
  rcases h3 with h | h
  · rw [e, h, Int.pow_add, h2, Int.pow_zero]; omega
  · rw [e, h, Int.pow_add, h2, Int.pow_one]; omega

set_option maxHeartbeats 1000000 in
theorem refPower_any (a n : Int) (w : World) (ha : in64 a) (hn : in64 n) :
    Calls Try.prog 16 #[.int .i64 a, .int .i64 n] w fun e w' => e = .returned (pairOf (powSaid a n)) ∧ Below w.heap.size w w' := by
  by_cases hL : 0 < n ∧ a ≠ 1 ∧ a ≠ 0 ∧ a ≠ -1
  · exact refPower_loop a n w ha hn hL.1 hL.2.1 hL.2.2.1 hL.2.2.2
  obtain ⟨p, hp⟩ : ∃ p, p = powSaid a n := ⟨_, rfl⟩
  rw [← hp]
  by_cases h0 : n < 0
  · have H := hide (show p = (0, 6) by rw [hp]; unfold powSaid; rw [if_pos h0])
    clear hp
    go_enter Try.func16, Try.ntmps16
    go_wp2
    go_ret2
    exact ⟨ret_pair (unhide H), Below.refl _ _⟩
  · have hn2 := hn
    unfold in64 at hn2
    have H0 : p = within (a ^ n.toNat) := by rw [hp]; unfold powSaid; rw [if_neg h0]
    clear hp
    by_cases h1 : n = 0
    · have H := hide (show p = (1, 0) by rw [H0, h1]; show within (a ^ 0) = _; rw [Int.pow_zero]; rfl)
      have d1 : (n == 0) = true := by simp [h1]
      clear H0
      go_enter Try.func16, Try.ntmps16
      go_wp2
      go_ret2
      exact ⟨ret_pair (unhide H), Below.refl _ _⟩
    · have d1 : (n == 0) = false := by simp [h1]
      by_cases h2 : a = 1
      · have H := hide (show p = (1, 0) by rw [H0, h2, Int.one_pow]; rfl)
        have d2 : (a == 1) = true := by simp [h2]
        clear H0
        go_enter Try.func16, Try.ntmps16
        go_wp2
        go_ret2
        exact ⟨ret_pair (unhide H), Below.refl _ _⟩
      · have d2 : (a == 1) = false := by simp [h2]
        by_cases h3 : a = 0
        · have H := hide (show p = (0, 0) by rw [H0, h3, Int.zero_pow (by omega)]; rfl)
          have d3 : (a == 0) = true := by simp [h3]
          clear H0
          go_enter Try.func16, Try.ntmps16
          go_wp2
          go_ret2
          exact ⟨ret_pair (unhide H), Below.refl _ _⟩
        · have d3 : (a == 0) = false := by simp [h3]
          by_cases h4 : a = -1
          · obtain ⟨k, rfl⟩ : ∃ k : Nat, n = k := ⟨n.toNat, by omega⟩
            have hmod : 0 ≤ (k : Int) % 2 ∧ (k : Int) % 2 ≤ 1 := by omega
            have H := hide (show p = (1 - 2 * ((k : Int) % 2), 0) by
              rw [H0, h4, Int.toNat_natCast, pow_sign, within_in _ (by unfold in64; omega)])
            have d4 : (a == -1) = true := by simp [h4]
            clear H0 ha hn
            obtain ⟨j, hj⟩ : ∃ j : Int, j = (k : Int) % 2 := ⟨_, rfl⟩
            have hj2 : (k : Int) % 2 = j := hj.symm
            rw [hj2] at hmod H
            clear hj
            go_enter Try.func16, Try.ntmps16
            go_wp2
            go_ret2
            exact ⟨ret_pair (unhide H), Below.refl _ _⟩
          · exact absurd ⟨by omega, h2, h3, h4⟩ hL
end Go.Proofs.Ytfjbafdgjpdbdaa
