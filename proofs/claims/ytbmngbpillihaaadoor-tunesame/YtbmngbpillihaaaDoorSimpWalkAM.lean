/- How many bits of a word are 1, by bytes: plain numbers, no Go text. What bits.OnesCount64 does: how many bits of a word are 1; what sets.Size does. What sets.Size does: how many bytes are in a set. The small functions of tune. -/
import Derived.WalkKit
import Derived.Laws.Bits64b
import Derived.Test.YtbmngbpillihaaaDoorWords5M
import Derived.Test.YtbmngbpillihaaaDoorScanSimM
import Derived.Test.YtbmngbpillihaaaDoorPatWrongP
import Derived.Laws.ResultCell
import Derived.Deep.QuietTactic
import Derived.BigQuiet
namespace Go.Proofs.YtbmngbpillihaaaDoor

def cnt (f : Nat → Bool) : Nat → Nat
  | 0 => 0
  | n + 1 => cnt f n + (if f n then 1 else 0)
theorem cnt_le (f : Nat → Bool) : ∀ n, cnt f n ≤ n
  | 0 => Nat.le_refl _
  | n + 1 => by have := cnt_le f n; simp only [cnt]; split <;> omega
theorem cnt_congr {f g : Nat → Bool} : ∀ {n}, (∀ i, i < n → f i = g i) → cnt f n = cnt g n
  | 0, _ => rfl
  | n + 1, h => by simp only [cnt]; rw [cnt_congr fun i hi => h i (by omega), h n (by omega)]
theorem cnt_add (f : Nat → Bool) (m : Nat) : ∀ k, cnt f (m + k) = cnt f m + cnt (fun i => f (m + i)) k
  | 0 => by simp [cnt]
  | k + 1 => by
    rw [← Nat.add_assoc]
    simp only [cnt]
    rw [cnt_add f m k]
    omega
def rep (b : Nat) : Nat → Nat
  | 0 => 0
  | n + 1 => b + 256 * rep b n
def n1 (m x : Nat) : Nat := (x / 2 &&& m) + (x &&& m)
def n2 (m x : Nat) : Nat := (x / 4 &&& m) + (x &&& m)
def n3 (m x : Nat) : Nat := (x / 16 + x) &&& m
theorem land_byte (a b c d : Nat) (ha : a < 256) (hc : c < 256) : (a + 256 * b) &&& (c + 256 * d) = (a &&& c) + 256 * (b &&& d) := by
  have hac : a &&& c < 256 := Nat.lt_of_le_of_lt Nat.and_le_left ha
  have e : ∀ u v : Nat, u + 256 * v = 2 ^ 8 * v + u := fun u v => by omega
  rw [e a b, e c d, e (a &&& c)]
  apply Nat.eq_of_testBit_eq
  intro i
  rw [Nat.testBit_and, Nat.testBit_two_pow_mul_add _ (show a < 2 ^ 8 from ha), Nat.testBit_two_pow_mul_add _ (show c < 2 ^ 8 from hc), Nat.testBit_two_pow_mul_add _ (show (a &&& c) < 2 ^ 8 from hac)]
  split
  · rw [Nat.testBit_and]
  · rw [Nat.testBit_and]
def f1 (a : Nat) : Nat := (a / 2 &&& 85) + (a &&& 85)
def f2 (a : Nat) : Nat := (a / 4 &&& 51) + (a &&& 51)
theorem d1 : ∀ a : Fin 256, ∀ r : Fin 2, ((a.val / 2 + 128 * r.val) &&& 85) + (a.val &&& 85) = f1 a.val ∧ f1 a.val < 256 := by decide +kernel
theorem d2 : ∀ a : Fin 256, ∀ r : Fin 4, ((a.val / 4 + 64 * r.val) &&& 51) + (a.val &&& 51) = f2 a.val ∧ f2 a.val < 256 := by decide +kernel
theorem d3 : ∀ a : Fin 256, ∀ r : Fin 5, ((f2 (f1 a.val) / 16 + 16 * r.val + f2 (f1 a.val)) &&& 15) = cnt a.val.testBit 8 ∧ f2 (f1 a.val) / 16 + 16 * r.val + f2 (f1 a.val) < 256 ∧ f2 (f1 a.val) % 16 ≤ 4 := by decide +kernel
theorem n1_byte (n a b : Nat) (ha : a < 256) : n1 (rep 85 (n + 1)) (a + 256 * b) = f1 a + 256 * n1 (rep 85 n) b := by
  unfold n1
  rw [show (a + 256 * b) / 2 = (a / 2 + 128 * (b % 2)) + 256 * (b / 2) by omega]
  show ((a / 2 + 128 * (b % 2)) + 256 * (b / 2) &&& (85 + 256 * rep 85 n)) + ((a + 256 * b) &&& (85 + 256 * rep 85 n)) = _
  rw [land_byte _ _ _ _ (by omega) (by omega), land_byte _ _ _ _ ha (by omega)]
  have := (d1 ⟨a, ha⟩ ⟨b % 2, by omega⟩).1
  simp only at this
  omega
theorem n2_byte (n a b : Nat) (ha : a < 256) : n2 (rep 51 (n + 1)) (a + 256 * b) = f2 a + 256 * n2 (rep 51 n) b := by
  unfold n2
  rw [show (a + 256 * b) / 4 = (a / 4 + 64 * (b % 4)) + 256 * (b / 4) by omega]
  show ((a / 4 + 64 * (b % 4)) + 256 * (b / 4) &&& (51 + 256 * rep 51 n)) + ((a + 256 * b) &&& (51 + 256 * rep 51 n)) = _
  rw [land_byte _ _ _ _ (by omega) (by omega), land_byte _ _ _ _ ha (by omega)]
  have := (d2 ⟨a, ha⟩ ⟨b % 4, by omega⟩).1
  simp only at this
  omega
def n12 (n x : Nat) : Nat := n2 (rep 51 n) (n1 (rep 85 n) x)
theorem n12_byte (n a b : Nat) (ha : a < 256) : n12 (n + 1) (a + 256 * b) = f2 (f1 a) + 256 * n12 n b := by
  unfold n12
  rw [n1_byte n a b ha, n2_byte _ _ _ (d1 ⟨a, ha⟩ 0).2]
theorem n12_low (n x : Nat) : n12 n x % 16 ≤ 4 := by
  cases n with
  | zero => simp [n12, n2, rep]
  | succ n =>
    have e : x = x % 256 + 256 * (x / 256) := by omega
    rw [e, n12_byte _ _ _ (by omega)]
    have := (d3 ⟨x % 256, by omega⟩ 0).2.2
    simp only at this
    omega
def n123 (n x : Nat) : Nat := n3 (rep 15 n) (n12 n x)
theorem n123_byte (n a b : Nat) (ha : a < 256) : n123 (n + 1) (a + 256 * b) = cnt a.testBit 8 + 256 * n123 n b := by
  unfold n123 n3
  rw [n12_byte n a b ha]
  have hl := n12_low n b
  have h := d3 ⟨a, ha⟩ ⟨n12 n b % 16, by omega⟩
  simp only at h
  generalize f2 (f1 a) = z at *
  generalize n12 n b = y at *
  rw [show (z + 256 * y) / 16 + (z + 256 * y) = (z / 16 + 16 * (y % 16) + z) + 256 * (y / 16 + y) by omega]
  show ((z / 16 + 16 * (y % 16) + z) + 256 * (y / 16 + y)) &&& (15 + 256 * rep 15 n) = _
  rw [land_byte _ _ _ _ h.2.1 (by omega), h.1]
theorem cnt_byte (x n : Nat) : cnt x.testBit (8 + n) = cnt (x % 256).testBit 8 + cnt (x / 256).testBit n := by
  rw [cnt_add]
  congr 1
  · apply cnt_congr
    intro i hi
    rw [show (256 : Nat) = 2 ^ 8 from rfl, Nat.testBit_mod_two_pow]
    simp [hi]
  · apply cnt_congr
    intro i _
    rw [show (256 : Nat) = 2 ^ 8 from rfl, Nat.testBit_div_two_pow, Nat.add_comm]
theorem div_of {y lo hi M : Nat} (h : y = lo + M * hi) (lt : lo < M) : y / M = hi := by
  subst h
  rw [Nat.add_mul_div_left _ _ (by omega), Nat.div_eq_of_lt lt, Nat.zero_add]
def by8 (c0 c1 c2 c3 c4 c5 c6 c7 : Nat) : Nat := c0 + 256 * c1 + 65536 * c2 + 16777216 * c3 + 4294967296 * c4 + 1099511627776 * c5 + 281474976710656 * c6 + 72057594037927936 * c7
theorem by8_of (c0 c1 c2 c3 c4 c5 c6 c7 : Nat) : c0 + 256 * (c1 + 256 * (c2 + 256 * (c3 + 256 * (c4 + 256 * (c5 + 256 * (c6 + 256 * (c7 + 256 * 0))))))) = by8 c0 c1 c2 c3 c4 c5 c6 c7 := by unfold by8; omega
theorem by8_1 (c0 c1 c2 c3 c4 c5 c6 c7 : Nat) : by8 c0 c1 c2 c3 c4 c5 c6 c7 = c0 + 256 * by8 c1 c2 c3 c4 c5 c6 c7 0 := by unfold by8; omega
theorem by8_2 (c0 c1 c2 c3 c4 c5 c6 c7 : Nat) : by8 c0 c1 c2 c3 c4 c5 c6 c7 = (c0 + 256 * c1) + 65536 * by8 c2 c3 c4 c5 c6 c7 0 0 := by unfold by8; omega
theorem by8_4 (c0 c1 c2 c3 c4 c5 c6 c7 : Nat) : by8 c0 c1 c2 c3 c4 c5 c6 c7 = (c0 + 256 * c1 + 65536 * c2 + 16777216 * c3) + 4294967296 * by8 c4 c5 c6 c7 0 0 0 0 := by unfold by8; omega
theorem by8_add (c0 c1 c2 c3 c4 c5 c6 c7 d0 d1 d2 d3 d4 d5 d6 d7 : Nat) : by8 c0 c1 c2 c3 c4 c5 c6 c7 + by8 d0 d1 d2 d3 d4 d5 d6 d7 = by8 (c0 + d0) (c1 + d1) (c2 + d2) (c3 + d3) (c4 + d4) (c5 + d5) (c6 + d6) (c7 + d7) := by unfold by8; omega
theorem by8_lt (c0 c1 c2 c3 c4 c5 c6 c7 : Nat) (h0 : c0 ≤ 64) (h1 : c1 ≤ 64) (h2 : c2 ≤ 64) (h3 : c3 ≤ 64) (h4 : c4 ≤ 64) (h5 : c5 ≤ 64) (h6 : c6 ≤ 64) (h7 : c7 ≤ 64) : by8 c0 c1 c2 c3 c4 c5 c6 c7 < 9223372036854775808 := by unfold by8; omega
theorem fold_sum (c0 c1 c2 c3 c4 c5 c6 c7 : Nat) (h0 : c0 ≤ 8) (h1 : c1 ≤ 8) (h2 : c2 ≤ 8) (h3 : c3 ≤ 8) (h4 : c4 ≤ 8) (h5 : c5 ≤ 8) (h6 : c6 ≤ 8) (h7 : c7 ≤ 8) (y y1 y2 y3 : Nat)
    (hy : y = by8 c0 c1 c2 c3 c4 c5 c6 c7) (e1 : y1 = y + y / 256) (e2 : y2 = y1 + y1 / 65536) (e3 : y3 = y2 + y2 / 4294967296) :
    y < 9223372036854775808 ∧ y1 < 9223372036854775808 ∧ y2 < 9223372036854775808 ∧ y3 < 9223372036854775808 ∧ y3 % 128 = c0 + c1 + c2 + c3 + c4 + c5 + c6 + c7 := by
  have a1 : y / 256 = _ := div_of (hy.trans (by8_1 ..)) (by omega)
  rw [a1, hy, by8_add] at e1
  have a2 : y1 / 65536 = _ := div_of (e1.trans (by8_2 ..)) (by clear e1 e2 e3 a1 hy; omega)
  rw [a2, e1, by8_add] at e2
  have a3 : y2 / 4294967296 = _ := div_of (e2.trans (by8_4 ..)) (by clear e1 e2 e3 a1 a2 hy; omega)
  rw [a3, e2, by8_add] at e3
  clear a1 a2 a3
  rw [hy, e1, e2, e3]
  clear hy e1 e2 e3
  refine ⟨by8_lt _ _ _ _ _ _ _ _ (by omega) (by omega) (by omega) (by omega) (by omega) (by omega) (by omega) (by omega), by8_lt _ _ _ _ _ _ _ _ (by omega) (by omega) (by omega) (by omega) (by omega) (by omega) (by omega) (by omega), by8_lt _ _ _ _ _ _ _ _ (by omega) (by omega) (by omega) (by omega) (by omega) (by omega) (by omega) (by omega), by8_lt _ _ _ _ _ _ _ _ (by omega) (by omega) (by omega) (by omega) (by omega) (by omega) (by omega) (by omega), ?_⟩
  rw [by8_1, show ∀ u v : Nat, u + 256 * v = u + 128 * (2 * v) from fun u v => by omega, Nat.add_mul_mod_self_left, Nat.mod_eq_of_lt (by omega)]
  omega
end Go.Proofs.YtbmngbpillihaaaDoor

namespace Go.Proofs.YtbmngbpillihaaaDoor
open Go.RowKit

@[reducible] def i1 (x : Int) : Int := IntKind.u64.wrap (bits BinOp.and IntKind.u64 (x / 2) 6148914691236517205 + bits BinOp.and IntKind.u64 x 6148914691236517205)
@[reducible] def i2 (x : Int) : Int := IntKind.u64.wrap (bits BinOp.and IntKind.u64 (x / 4) 3689348814741910323 + bits BinOp.and IntKind.u64 x 3689348814741910323)
@[reducible] def i3 (x : Int) : Int := bits BinOp.and IntKind.u64 (IntKind.u64.wrap (x / 16 + x)) 1085102592571150095
@[reducible] def i4 (x : Int) : Int := IntKind.u64.wrap (x + x / 256)
@[reducible] def i5 (x : Int) : Int := IntKind.u64.wrap (x + x / 65536)
@[reducible] def i6 (x : Int) : Int := IntKind.u64.wrap (x + x / 4294967296)
theorem and64 (x m : Nat) (hx : x < 18446744073709551616) (hm : m < 18446744073709551616) : bits BinOp.and IntKind.u64 (x : Int) (m : Int) = ((x &&& m : Nat) : Int) := bits_and_u64_nat x m hx hm
theorem wrap_nat (x : Nat) (hx : x < 18446744073709551616) : IntKind.u64.wrap (x : Int) = (x : Int) := by rw [IntKind.wrap_u64]; omega
theorem i1_nat (x : Nat) (hx : x < 18446744073709551616) : i1 x = (n1 6148914691236517205 x : Int) := by
  unfold i1 n1
  rw [show ((x : Int) / 2) = ((x / 2 : Nat) : Int) by omega]
  have e1 := and64 (x / 2) 6148914691236517205 (by omega) (by omega)
  have e2 := and64 x 6148914691236517205 hx (by omega)
  have l1 : x / 2 &&& 6148914691236517205 ≤ 6148914691236517205 := Nat.and_le_right
  have l2 : x &&& 6148914691236517205 ≤ 6148914691236517205 := Nat.and_le_right
  rw [show ((6148914691236517205 : Int)) = ((6148914691236517205 : Nat) : Int) from rfl, e1, e2, ← Int.natCast_add, wrap_nat _ (by omega)]
theorem i2_nat (x : Nat) (hx : x < 18446744073709551616) : i2 x = (n2 3689348814741910323 x : Int) := by
  unfold i2 n2
  rw [show ((x : Int) / 4) = ((x / 4 : Nat) : Int) by omega]
  have e1 := and64 (x / 4) 3689348814741910323 (by omega) (by omega)
  have e2 := and64 x 3689348814741910323 hx (by omega)
  have l1 : x / 4 &&& 3689348814741910323 ≤ 3689348814741910323 := Nat.and_le_right
  have l2 : x &&& 3689348814741910323 ≤ 3689348814741910323 := Nat.and_le_right
  rw [show ((3689348814741910323 : Int)) = ((3689348814741910323 : Nat) : Int) from rfl, e1, e2, ← Int.natCast_add, wrap_nat _ (by omega)]
theorem i3_nat (x : Nat) (hx : x ≤ 7378697629483820646) : i3 x = (n3 1085102592571150095 x : Int) := by
  unfold i3 n3
  rw [show ((x : Int) / 16 + x) = ((x / 16 + x : Nat) : Int) by omega, wrap_nat _ (by omega)]
  have e2 := and64 (x / 16 + x) 1085102592571150095 (by omega) (by omega)
  rw [show ((1085102592571150095 : Int)) = ((1085102592571150095 : Nat) : Int) from rfl, e2]
theorem and_low (x : Nat) (hx : x < 9223372036854775808) : bits BinOp.and IntKind.i64 (wrap64 (x : Int)) 127 = ((x % 128 : Nat) : Int) := by
  have e0 : wrap64 (x : Int) = (x : Int) := IntWalk.wrap64_in _ (by omega)
  rw [e0]
  have h1 : (BitVec.ofInt 64 (x : Int)).toNat = x := by
    rw [BitVec.ofInt_natCast, BitVec.toNat_ofNat]; exact Nat.mod_eq_of_lt (by omega)
  have h2 : (BitVec.ofInt 64 (127 : Int)).toNat = 2 ^ 7 - 1 := by decide
  show IntKind.i64.wrap ((BitVec.ofInt 64 (x : Int) &&& BitVec.ofInt 64 (127 : Int)).toNat : Int) = _
  rw [BitVec.toNat_and, h1, h2, Nat.and_two_pow_sub_one_eq_mod]
  show IntKind.i64.wrap ((x % 128 : Nat) : Int) = _
  exact IntWalk.i64_in _ (by omega)
theorem n123_8 (x : Nat) : n123 8 x = n3 1085102592571150095 (n2 3689348814741910323 (n1 6148914691236517205 x)) := rfl
theorem n123_split (n x : Nat) : n123 (n + 1) x = cnt (x % 256).testBit 8 + 256 * n123 n (x / 256) := by
  have e : x = x % 256 + 256 * (x / 256) := by omega
  rw [← n123_byte n (x % 256) (x / 256) (by omega), ← e]
theorem ones_nat (x : Nat) (hx : x < 18446744073709551616) : bits BinOp.and IntKind.i64 (wrap64 (i6 (i5 (i4 (i3 (i2 (i1 x))))))) 127 = (cnt x.testBit 64 : Int) := by
  rw [i1_nat x hx]
  have l1 : n1 6148914691236517205 x ≤ 12297829382473034410 := by
    unfold n1
    have l1 : x / 2 &&& 6148914691236517205 ≤ 6148914691236517205 := Nat.and_le_right
    have l2 : x &&& 6148914691236517205 ≤ 6148914691236517205 := Nat.and_le_right
    omega
  rw [i2_nat _ (by omega)]
  have l2 : n2 3689348814741910323 (n1 6148914691236517205 x) ≤ 7378697629483820646 := by
    unfold n2
    generalize n1 6148914691236517205 x = y
    have l1 : y / 4 &&& 3689348814741910323 ≤ 3689348814741910323 := Nat.and_le_right
    have l2 : y &&& 3689348814741910323 ≤ 3689348814741910323 := Nat.and_le_right
    omega
  rw [i3_nat _ l2, ← n123_8]
  clear l1 l2
  have hc : cnt x.testBit 64 = _ := (cnt_byte x 56).trans (congrArg _ ((cnt_byte _ 48).trans (congrArg _ ((cnt_byte _ 40).trans (congrArg _ ((cnt_byte _ 32).trans (congrArg _ ((cnt_byte _ 24).trans (congrArg _ ((cnt_byte _ 16).trans (congrArg _ ((cnt_byte _ 8).trans (congrArg _ (cnt_byte _ 0))))))))))))))
  have hy : n123 8 x = _ := (n123_split 7 x).trans (congrArg _ (congrArg _ ((n123_split 6 _).trans (congrArg _ (congrArg _ ((n123_split 5 _).trans (congrArg _ (congrArg _ ((n123_split 4 _).trans (congrArg _ (congrArg _ ((n123_split 3 _).trans (congrArg _ (congrArg _ ((n123_split 2 _).trans (congrArg _ (congrArg _ ((n123_split 1 _).trans (congrArg _ (congrArg _ (n123_split 0 _)))))))))))))))))))))
  have b8 : ∀ z : Nat, cnt z.testBit 8 ≤ 8 := fun z => cnt_le _ 8
  have z0 : ∀ z : Nat, n123 0 z = 0 := fun z => by simp [n123, n3, rep]
  have c0 : ∀ z : Nat, cnt z.testBit 0 = 0 := fun z => rfl
  rw [z0, by8_of] at hy
  rw [c0, Nat.add_zero] at hc
  obtain ⟨k0, k1, k2, k3, k4⟩ := fold_sum _ _ _ _ _ _ _ _ (b8 _) (b8 _) (b8 _) (b8 _) (b8 _) (b8 _) (b8 _) (b8 _) _ _ _ _ hy rfl rfl rfl
  rw [hc]
  generalize n123 8 x = y at *
  have f4 : i4 y = ((y + y / 256 : Nat) : Int) := by
    unfold i4
    rw [show ((y : Int) + (y : Int) / 256) = ((y + y / 256 : Nat) : Int) by omega, wrap_nat _ (by omega)]
  rw [f4]
  generalize y + y / 256 = y1 at *
  have f5 : i5 y1 = ((y1 + y1 / 65536 : Nat) : Int) := by
    unfold i5
    rw [show ((y1 : Int) + (y1 : Int) / 65536) = ((y1 + y1 / 65536 : Nat) : Int) by omega, wrap_nat _ (by omega)]
  rw [f5]
  generalize y1 + y1 / 65536 = y2 at *
  have f6 : i6 y2 = ((y2 + y2 / 4294967296 : Nat) : Int) := by
    unfold i6
    rw [show ((y2 : Int) + (y2 : Int) / 4294967296) = ((y2 + y2 / 4294967296 : Nat) : Int) by omega, wrap_nat _ (by omega)]
  rw [f6]
  generalize y2 + y2 / 4294967296 = y3 at *
  rw [and_low _ k3, k4]
  simp only [Nat.add_assoc]
set_option maxHeartbeats 1000000 in
theorem ones_any (x : Nat) (w : World) (hx : x < 18446744073709551616) :
    Calls Tryd.prog 100 #[.int .u64 (x : Int)] w fun e w' => e = .returned (.int .i64 (cnt x.testBit 64 : Int)) ∧ w' = w := by
  rw [← ones_nat x hx]
  go_enter Tryd.func100, Tryd.ntmps100
  go_wp2
  go_ret
  exact ⟨rfl, rfl⟩
end Go.Proofs.YtbmngbpillihaaaDoor

namespace Go.Proofs.YtbmngbpillihaaaDoor
open Go.RowKit

theorem cnt_word (p : Nat → Bool) (k : Nat) : cnt p (64 * k) + cnt (wd p k).testBit 64 = cnt p (64 * (k + 1)) := by
  rw [Nat.mul_add, Nat.mul_one, cnt_add]
  congr 1
  apply cnt_congr
  intro i hi
  rw [wd_bit]
  simp [hi]
set_option maxHeartbeats 400000 in
theorem setSize_any (p : Nat → Bool) (w : World) :
    Calls Tryd.prog 72 #[sv p] w fun e w' => e = .returned (.int .i64 (cnt p 256 : Int)) ∧ Below w.heap.size w w' := by
  unfold sv
  have hcs := sc_size p
  have H0 := hide (sc_at p)
  have H1 := hide (fun k W => ones_any (wd p k) W (wd_lt p k))
  have H2 := hide (cnt_word p)
  have hi := size_set
  rw [← hcs] at hi
  generalize sc p = C at *
  have HI := hide hi
  clear hi
  go_enter Tryd.func72, Tryd.ntmps72
  go_wp2_with (refine wpList_load_row rfl 33 _ rfl w.heap.size rfl 33 C (0, 0) _ (at_new rfl) Tryd.underlying33 rfl (unhide HI) ?_)
  go_loop [3, 7] (fun n i => ∃ k : Nat, k ≤ 4 ∧ i = .int .i64 k ∧ n = .int .i64 (cnt p (64 * k) : Int)) (fun _ i => 4 - (intOf i).toNat)
  case atStart => exact ⟨0, by omega, rfl, rfl⟩
  case round =>
    obtain ⟨k, hk, rfl, rfl⟩ := hrel
    by_cases hlt : k < 4
    · have h1 : (k : Int) < 4 := by omega
      have hat := fun W => run_index_row W Tryd.underlying33 plain_u64 size_u64 hlt (unhide H0 k hlt)
      have C1 := hide (unhide H1 k)
      have hle1 := cnt_le p (64 * k)
      have hle2 := cnt_le (wd p k).testBit 64
      have H3 := hide (unhide H2 k)
      generalize cnt p (64 * k) = n1 at *
      generalize cnt (wd p k).testBit 64 = n2 at *
      go_wp2_with fail
      refine (unhide C1 _).mono ?_
      rintro e w1 ⟨rfl, rfl⟩
      go_wp2
      go_round
      case rel => exact ⟨k + 1, by omega, by go_num, by rw [← unhide H3]; go_num⟩
      case measure => simp [intOf]; omega
    · obtain rfl : k = 4 := by omega
      go_wp2
      go_ret
      exact ⟨rfl, (Below.refl _ _).alloc (Nat.le_refl _) _⟩
end Go.Proofs.YtbmngbpillihaaaDoor

namespace Go.Proofs.YtbmngbpillihaaaDoor
open Go.RowKit

theorem pats5s {w : World} {z : Nat} {v0 v1 v2 v3 v4 : Value} (h : w.heap[z]? = some (.cells #[v0, v1, v2, v3, v4] 24 (0, 0))) :
    w.cell? ⟨z, 0, none⟩ = some v0 ∧ w.cell? ⟨z, 1, none⟩ = some v1 ∧ w.cell? ⟨z, 2, none⟩ = some v2 ∧ w.cell? ⟨z, 3, none⟩ = some v3 ∧ w.cell? ⟨z, 4, none⟩ = some v4 :=
  ⟨(cell_of_row w _ _ _ _ _ h).trans rfl, (cell_of_row w _ _ _ _ _ h).trans rfl, (cell_of_row w _ _ _ _ _ h).trans rfl, (cell_of_row w _ _ _ _ _ h).trans rfl, (cell_of_row w _ _ _ _ _ h).trans rfl⟩
theorem keepS {w : World} {z : Nat} {x o : Obj} (h : w.heap[z]? = some x) : (w.alloc o).heap[z]? = some x := at_old (Array.getElem?_eq_some_iff.1 h).1 h
theorem empS {t : ByteArray} : t.toList.isEmpty = decide (t.size = 0) := by
  rw [ByteArray.toList_eq]
  have hl : t.data.toList.length = t.size := by simp
  cases hd : t.data.toList with
  | nil => rw [hd] at hl; rw [decide_eq_true (show t.size = 0 by simpa using hl.symm)]; rfl
  | cons x l => rw [hd] at hl; rw [decide_eq_false (show ¬ t.size = 0 by intro e; rw [e] at hl; simp at hl)]; rfl
set_option maxRecDepth 100000 in
set_option maxHeartbeats 1000000 in
theorem isFail_any (T : PT) (w : World) : Calls Tryd.prog 81 #[pv T] w fun e w' => e = .returned (.bool (isF T)) ∧ Below w.heap.size w w' := by
  unfold pv isF
  by_cases h : T.k = 15
  · rw [h]
    go_enter Tryd.func81, Tryd.ntmps81
    go_wp2_with fail
    go_ret
    exact ⟨rfl, (Below.refl _ _).alloc (Nat.le_refl _) _⟩
  · have hb : (T.k == 15) = false := by rw [beq_eq_false_iff_ne]; exact h
    rw [decide_eq_false h]
    go_enter Tryd.func81, Tryd.ntmps81
    go_wp2_with fail
    go_ret
    exact ⟨rfl, (Below.refl _ _).alloc (Nat.le_refl _) _⟩
set_option maxRecDepth 100000 in
set_option maxHeartbeats 1000000 in
theorem isAbort_any (T : PT) (w : World) : Calls Tryd.prog 80 #[pv T] w fun e w' => e = .returned (.bool (isA T)) ∧ Below w.heap.size w w' := by
  unfold pv isA
  by_cases h : T.k = 17
  · rw [h]
    go_enter Tryd.func80, Tryd.ntmps80
    go_wp2_with fail
    go_ret
    exact ⟨rfl, (Below.refl _ _).alloc (Nat.le_refl _) _⟩
  · have hb : (T.k == 17) = false := by rw [beq_eq_false_iff_ne]; exact h
    rw [decide_eq_false h]
    go_enter Tryd.func80, Tryd.ntmps80
    go_wp2_with fail
    go_ret
    exact ⟨rfl, (Below.refl _ _).alloc (Nat.le_refl _) _⟩
set_option maxRecDepth 100000 in
set_option maxHeartbeats 1000000 in
theorem isEmpty_any (T : PT) (w : World) : Calls Tryd.prog 78 #[pv T] w fun e w' => e = .returned (.bool (isE T)) ∧ Below w.heap.size w w' := by
  unfold pv isE
  by_cases h : T.k = 1
  · rw [h, decide_eq_true (show (1 : Int) = 1 from rfl), Bool.true_and]
    have he := empS (t := T.t)
    rw [← he]
    clear he
    go_enter Tryd.func78, Tryd.ntmps78
    go_wp2_with fail
    go_ret
    exact ⟨rfl, (Below.refl _ _).alloc (Nat.le_refl _) _⟩
  · have hb : (T.k == 1) = false := by rw [beq_eq_false_iff_ne]; exact h
    rw [decide_eq_false h, Bool.false_and]
    go_enter Tryd.func78, Tryd.ntmps78
    go_wp2_with fail
    go_ret
    exact ⟨rfl, (Below.refl _ _).alloc (Nat.le_refl _) _⟩
set_option maxRecDepth 100000 in
set_option maxHeartbeats 1000000 in
theorem isOneByte_any (T : PT) (w : World) : Calls Tryd.prog 103 #[pv T] w fun e w' => e = .returned (.bool (oneB T)) ∧ Below w.heap.size w w' := by
  unfold pv oneB
  by_cases h : T.k = 3
  · rw [h, decide_eq_true (show (3 : Int) = 3 from rfl), Bool.true_or]
    go_enter Tryd.func103, Tryd.ntmps103
    go_wp2_with fail
    go_ret
    exact ⟨rfl, (Below.refl _ _).alloc (Nat.le_refl _) _⟩
  · have hb : (T.k == 3) = false := by rw [beq_eq_false_iff_ne]; exact h
    rw [decide_eq_false h, Bool.false_or]
    by_cases h1 : T.k = 1
    · by_cases h2 : T.t.size = 1
      · have hs : ((T.t.size : Int) == 1) = true := by rw [h2]; rfl
        rw [h1, decide_eq_true (show (1 : Int) = 1 from rfl), decide_eq_true h2]
        clear h2 hb h
        go_enter Tryd.func103, Tryd.ntmps103
        go_wp2_with fail
        go_ret
        exact ⟨rfl, (Below.refl _ _).alloc (Nat.le_refl _) _⟩
      · have hs : ((T.t.size : Int) == 1) = false := by rw [beq_eq_false_iff_ne]; omega
        rw [h1, decide_eq_true (show (1 : Int) = 1 from rfl), decide_eq_false h2]
        clear h2 hb h
        go_enter Tryd.func103, Tryd.ntmps103
        go_wp2_with fail
        go_ret
        exact ⟨rfl, (Below.refl _ _).alloc (Nat.le_refl _) _⟩
    · have hb1 : (T.k == 1) = false := by rw [beq_eq_false_iff_ne]; exact h1
      rw [decide_eq_false h1, Bool.false_and]
      go_enter Tryd.func103, Tryd.ntmps103
      go_wp2_with fail
      go_ret
      exact ⟨rfl, (Below.refl _ _).alloc (Nat.le_refl _) _⟩
set_option maxRecDepth 100000 in
set_option maxHeartbeats 1000000 in
theorem neverEnds_any (T : PT) (w : World) : Calls Tryd.prog 49 #[pv T] w fun e w' => e = .returned (.bool (nev T)) ∧ Below w.heap.size w w' := by
  have H1 := hide (fun W => isFail_any T W)
  have H2 := hide (fun W => isAbort_any T W)
  unfold nev
  unfold pv at H1 H2 ⊢
  generalize isF T = f1 at *
  generalize isA T = f2 at *
  go_enter Tryd.func49, Tryd.ntmps49
  go_wp2_with fail
  refine (unhide H1 _).mono ?_
  rintro e w1 ⟨rfl, hb1⟩
  have g1 := row_below (at_new (w := w) (o := .cells #[.int .i64 T.k, .string T.t, .int .i64 T.n, .string T.nm, .slice T.xa T.len T.cap] 24) rfl) hb1
  have HB := hide (bnext ((Below.refl w.heap.size w).alloc (Nat.le_refl _) _) hb1)
  obtain ⟨y0, y1, y2, y3, y4⟩ := pats5s g1
  clear hb1 g1
  cases f1 with
  | true =>
    go_wp2_with fail
    go_ret
    exact ⟨rfl, unhide HB⟩
  | false =>
    go_wp2_with fail
    refine (unhide H2 _).mono ?_
    rintro e w2 ⟨rfl, hb2⟩
    have HB2 := hide (bnext (unhide HB) hb2)
    clear hb2 y0 y1 y2 y3 y4
    go_wp2_with fail
    go_ret
    exact ⟨rfl, unhide HB2⟩
end Go.Proofs.YtbmngbpillihaaaDoor
