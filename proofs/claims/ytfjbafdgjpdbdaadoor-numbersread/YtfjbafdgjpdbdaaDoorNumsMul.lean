/- What numbers.Mul does, for every two numbers. -/
import Derived.Test.YtfjbafdgjpdbdaaDoorNums
import Derived.Test.YtfjbafdgjpdbdaaDoorMulLib
namespace Go.Proofs.YtfjbafdgjpdbdaaDoor
open Go.RowKit

theorem natAbs_lt {a : Int} (h : in64 a) : a.natAbs < 18446744073709551616 := by unfold in64 at h; omega
theorem prod_sign (a b : Int) : a * b = if (decide (a < 0) != decide (b < 0)) then -((a.natAbs * b.natAbs : Nat) : Int) else ((a.natAbs * b.natAbs : Nat) : Int) := by
  rw [← Int.natAbs_mul]
  by_cases ha : a < 0
  · by_cases hb : b < 0
    · have : 0 < a * b := Int.mul_pos_of_neg_of_neg ha hb
      simp [ha, hb]; omega
    · have : a * b ≤ 0 := Int.mul_nonpos_of_nonpos_of_nonneg (by omega) (by omega)
      simp [ha, hb]; omega
  · by_cases hb : b < 0
    · have : a * b ≤ 0 := Int.mul_nonpos_of_nonneg_of_nonpos (by omega) (by omega)
      simp [ha, hb]; omega
    · have : 0 ≤ a * b := Int.mul_nonneg (by omega) (by omega)
      simp [ha, hb]; omega

set_option maxHeartbeats 400000 in
theorem mul_any (a b : Int) (w : World) (ha : in64 a) (hb : in64 b) :
    Calls Tryd.prog 17 #[.int .i64 a, .int .i64 b] w fun e w' => e = .returned (pairOf (within (a * b))) ∧ w' = w := by
  have C1 := hide (size_any a w ha)
  have C2 := hide (size_any b w hb)
  have C3 := hide (Tryd.bits_Mul64 a.natAbs b.natAbs (natAbs_lt ha) (natAbs_lt hb) w)
  have hs := hide (prod_sign a b)
  by_cases h : a.natAbs * b.natAbs < 18446744073709551616
  · have hd : a.natAbs * b.natAbs / 18446744073709551616 = 0 := Nat.div_eq_of_lt h
    have hm : a.natAbs * b.natAbs % 18446744073709551616 = a.natAbs * b.natAbs := Nat.mod_eq_of_lt h
    rw [hd, hm] at C3
    have C4 := hide (signed_any (a.natAbs * b.natAbs) (decide (a < 0) != decide (b < 0)) w h)
    rw [← unhide hs] at C4
    generalize a.natAbs * b.natAbs = p at *
    clear h hd hm hs
    go_enter Tryd.func17, Tryd.ntmps17
    go_wp2_with fail
    refine (unhide C1).mono ?_
    rintro e w1 ⟨rfl, rfl⟩
    go_wp2_with fail
    refine (unhide C2).mono ?_
    rintro e w1 ⟨rfl, rfl⟩
    go_wp2_with fail
    refine (unhide C3).mono ?_
    rintro e w1 ⟨rfl, rfl⟩
    go_wp2_with fail
    refine (unhide C4).mono ?_
    rintro e w1 ⟨rfl, rfl⟩
    go_wp2
    go_ret2
    exact ⟨rfl, rfl⟩
  · have hout : ¬ in64 (a * b) := by
      have := Int.natAbs_mul a b
      unfold in64; omega
    rw [within_out _ hout]
    have hd : 1 ≤ a.natAbs * b.natAbs / 18446744073709551616 := by omega
    generalize a.natAbs * b.natAbs / 18446744073709551616 = p at *
    generalize a.natAbs * b.natAbs % 18446744073709551616 = q at *
    clear h hs hout
    go_enter Tryd.func17, Tryd.ntmps17
    go_wp2_with fail
    refine (unhide C1).mono ?_
    rintro e w1 ⟨rfl, rfl⟩
    go_wp2_with fail
    refine (unhide C2).mono ?_
    rintro e w1 ⟨rfl, rfl⟩
    go_wp2_with fail
    refine (unhide C3).mono ?_
    rintro e w1 ⟨rfl, rfl⟩
    go_wp2
    go_ret2
    exact ⟨rfl, rfl⟩
end Go.Proofs.YtfjbafdgjpdbdaaDoor
