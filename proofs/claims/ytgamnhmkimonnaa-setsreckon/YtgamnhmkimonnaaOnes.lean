/- What bits.OnesCount64 does: how many bits of a word are 1; what sets.Size does. -/
import Derived.Test.YtgamnhmkimonnaaWords
import Derived.Test.YtgamnhmkimonnaaOnesPlain
namespace Go.Proofs.Ytgamnhmkimonnaa
open Go.RowKit

@[reducible] def i1 (x : Int) : Int := IntKind.u64.wrap (bits BinOp.and IntKind.u64 (x / 2) 6148914691236517205 + bits BinOp.and IntKind.u64 x 6148914691236517205)
@[reducible] def i2 (x : Int) : Int := IntKind.u64.wrap (bits BinOp.and IntKind.u64 (x / 4) 3689348814741910323 + bits BinOp.and IntKind.u64 x 3689348814741910323)
@[reducible] def i3 (x : Int) : Int := bits BinOp.and IntKind.u64 (IntKind.u64.wrap (x / 16 + x)) 1085102592571150095
@[reducible] def i4 (x : Int) : Int := IntKind.u64.wrap (x + x / 256)
@[reducible] def i5 (x : Int) : Int := IntKind.u64.wrap (x + x / 65536)
@[reducible] def i6 (x : Int) : Int := IntKind.u64.wrap (x + x / 4294967296)
theorem and64 (x m : Nat) (hx : x < 18446744073709551616) (hm : m < 18446744073709551616) : bits BinOp.and IntKind.u64 (x : Int) (m : Int) = ((x &&& m : Nat) : Int) := bits_and_u64_nat x m hx hm
theorem wrap_nat (x : Nat) (hx : x < 18446744073709551616) : IntKind.u64.wrap (x : Int) = (x : Int) := by rw [IntKind.wrap_u64]; omega
theorem i1_nat (x : Nat) (hx : x < 18446744073709551616) : i1 x = (n1 6148914691236517205 x : Int) := by
  unfold i1 n1
  rw [show ((x : Int) / 2) = ((x / 2 : Nat) : Int) by omega]
  have e1 := and64 (x / 2) 6148914691236517205 (by omega) (by omega)
  have e2 := and64 x 6148914691236517205 hx (by omega)
  have l1 : x / 2 &&& 6148914691236517205 ≤ 6148914691236517205 := Nat.and_le_right
  have l2 : x &&& 6148914691236517205 ≤ 6148914691236517205 := Nat.and_le_right
  rw [show ((6148914691236517205 : Int)) = ((6148914691236517205 : Nat) : Int) from rfl, e1, e2, ← Int.natCast_add, wrap_nat _ (by omega)]
theorem i2_nat (x : Nat) (hx : x < 18446744073709551616) : i2 x = (n2 3689348814741910323 x : Int) := by
  unfold i2 n2
  rw [show ((x : Int) / 4) = ((x / 4 : Nat) : Int) by omega]
  have e1 := and64 (x / 4) 3689348814741910323 (by omega) (by omega)
  have e2 := and64 x 3689348814741910323 hx (by omega)
  have l1 : x / 4 &&& 3689348814741910323 ≤ 3689348814741910323 := Nat.and_le_right
  have l2 : x &&& 3689348814741910323 ≤ 3689348814741910323 := Nat.and_le_right
  rw [show ((3689348814741910323 : Int)) = ((3689348814741910323 : Nat) : Int) from rfl, e1, e2, ← Int.natCast_add, wrap_nat _ (by omega)]
theorem i3_nat (x : Nat) (hx : x ≤ 7378697629483820646) : i3 x = (n3 1085102592571150095 x : Int) := by
  unfold i3 n3
  rw [show ((x : Int) / 16 + x) = ((x / 16 + x : Nat) : Int) by omega, wrap_nat _ (by omega)]
  have e2 := and64 (x / 16 + x) 1085102592571150095 (by omega) (by omega)
  rw [show ((1085102592571150095 : Int)) = ((1085102592571150095 : Nat) : Int) from rfl, e2]
theorem and_low (x : Nat) (hx : x < 9223372036854775808) : bits BinOp.and IntKind.i64 (wrap64 (x : Int)) 127 = ((x % 128 : Nat) : Int) := by
  have e0 : wrap64 (x : Int) = (x : Int) := IntWalk.wrap64_in _ (by omega)
  rw [e0]
  have h1 : (BitVec.ofInt 64 (x : Int)).toNat = x := by
    rw [BitVec.ofInt_natCast, BitVec.toNat_ofNat]; exact Nat.mod_eq_of_lt (by omega)
  have h2 : (BitVec.ofInt 64 (127 : Int)).toNat = 2 ^ 7 - 1 := by decide
  show IntKind.i64.wrap ((BitVec.ofInt 64 (x : Int) &&& BitVec.ofInt 64 (127 : Int)).toNat : Int) = _
  rw [BitVec.toNat_and, h1, h2, Nat.and_two_pow_sub_one_eq_mod]
  show IntKind.i64.wrap ((x % 128 : Nat) : Int) = _
  exact IntWalk.i64_in _ (by omega)
theorem n123_8 (x : Nat) : n123 8 x = n3 1085102592571150095 (n2 3689348814741910323 (n1 6148914691236517205 x)) := rfl
theorem n123_split (n x : Nat) : n123 (n + 1) x = cnt (x % 256).testBit 8 + 256 * n123 n (x / 256) := by
  have e : x = x % 256 + 256 * (x / 256) := by omega
  rw [← n123_byte n (x % 256) (x / 256) (by omega), ← e]
theorem ones_nat (x : Nat) (hx : x < 18446744073709551616) : bits BinOp.and IntKind.i64 (wrap64 (i6 (i5 (i4 (i3 (i2 (i1 x))))))) 127 = (cnt x.testBit 64 : Int) := by
  rw [i1_nat x hx]
  have l1 : n1 6148914691236517205 x ≤ 12297829382473034410 := by
    unfold n1
    have l1 : x / 2 &&& 6148914691236517205 ≤ 6148914691236517205 := Nat.and_le_right
    have l2 : x &&& 6148914691236517205 ≤ 6148914691236517205 := Nat.and_le_right
    omega
  rw [i2_nat _ (by omega)]
  have l2 : n2 3689348814741910323 (n1 6148914691236517205 x) ≤ 7378697629483820646 := by
    unfold n2
    generalize n1 6148914691236517205 x = y
    have l1 : y / 4 &&& 3689348814741910323 ≤ 3689348814741910323 := Nat.and_le_right
    have l2 : y &&& 3689348814741910323 ≤ 3689348814741910323 := Nat.and_le_right
    omega
  rw [i3_nat _ l2, ← n123_8]
  clear l1 l2
  have hc : cnt x.testBit 64 = _ := (cnt_byte x 56).trans (congrArg _ ((cnt_byte _ 48).trans (congrArg _ ((cnt_byte _ 40).trans (congrArg _ ((cnt_byte _ 32).trans (congrArg _ ((cnt_byte _ 24).trans (congrArg _ ((cnt_byte _ 16).trans (congrArg _ ((cnt_byte _ 8).trans (congrArg _ (cnt_byte _ 0))))))))))))))
  have hy : n123 8 x = _ := (n123_split 7 x).trans (congrArg _ (congrArg _ ((n123_split 6 _).trans (congrArg _ (congrArg _ ((n123_split 5 _).trans (congrArg _ (congrArg _ ((n123_split 4 _).trans (congrArg _ (congrArg _ ((n123_split 3 _).trans (congrArg _ (congrArg _ ((n123_split 2 _).trans (congrArg _ (congrArg _ ((n123_split 1 _).trans (congrArg _ (congrArg _ (n123_split 0 _)))))))))))))))))))))
  have b8 : ∀ z : Nat, cnt z.testBit 8 ≤ 8 := fun z => cnt_le _ 8
  have z0 : ∀ z : Nat, n123 0 z = 0 := fun z => by simp [n123, n3, rep]
  have c0 : ∀ z : Nat, cnt z.testBit 0 = 0 := fun z => rfl
  rw [z0, by8_of] at hy
  rw [c0, Nat.add_zero] at hc
  obtain ⟨k0, k1, k2, k3, k4⟩ := fold_sum _ _ _ _ _ _ _ _ (b8 _) (b8 _) (b8 _) (b8 _) (b8 _) (b8 _) (b8 _) (b8 _) _ _ _ _ hy rfl rfl rfl
  rw [hc]
  generalize n123 8 x = y at *
  have f4 : i4 y = ((y + y / 256 : Nat) : Int) := by
    unfold i4
    rw [show ((y : Int) + (y : Int) / 256) = ((y + y / 256 : Nat) : Int) by omega, wrap_nat _ (by omega)]
  rw [f4]
  generalize y + y / 256 = y1 at *
  have f5 : i5 y1 = ((y1 + y1 / 65536 : Nat) : Int) := by
    unfold i5
    rw [show ((y1 : Int) + (y1 : Int) / 65536) = ((y1 + y1 / 65536 : Nat) : Int) by omega, wrap_nat _ (by omega)]
  rw [f5]
  generalize y1 + y1 / 65536 = y2 at *
  have f6 : i6 y2 = ((y2 + y2 / 4294967296 : Nat) : Int) := by
    unfold i6
    rw [show ((y2 : Int) + (y2 : Int) / 4294967296) = ((y2 + y2 / 4294967296 : Nat) : Int) by omega, wrap_nat _ (by omega)]
  rw [f6]
  generalize y2 + y2 / 4294967296 = y3 at *
  rw [and_low _ k3, k4]
  simp only [Nat.add_assoc]

set_option maxHeartbeats 1000000 in
theorem ones_any (x : Nat) (w : World) (hx : x < 18446744073709551616) :
    Calls Try.prog 30 #[.int .u64 (x : Int)] w fun e w' => e = .returned (.int .i64 (cnt x.testBit 64 : Int)) ∧ w' = w := by
  rw [← ones_nat x hx]
  go_enter Try.func30, Try.ntmps30
  go_wp2
  go_ret
  exact ⟨rfl, rfl⟩
end Go.Proofs.Ytgamnhmkimonnaa
