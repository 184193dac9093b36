/- What numbers.Add, Sub, Div, Rem, size and signed do, for every number. -/
import Derived.Test.YtfjbafdgjpdbdaaDoorRows
import Derived.WalkKit
import Derived.WalkSpells
import Derived.WalkLawsBesides
namespace Go.Proofs.YtfjbafdgjpdbdaaDoor
open Go.RowKit

theorem bnext {w a b : World} (h : Below w.heap.size w a) (k : Below a.heap.size a b) : Below w.heap.size w b := h.trans (k.mono h.size)
theorem hide {p : Prop} (h : p) : Hid p := h
theorem unhide {p : Prop} (h : Hid p) : p := h
/-- One of the numbers from -2^63 to 2^63 - 1. -/
def in64 (n : Int) : Prop := -9223372036854775808 ≤ n ∧ n ≤ 9223372036854775807
/-- A number where it is one of 64 bits, and the error beside it: OK, or ErrRange. -/
def within (n : Int) : Int × Int := if -9223372036854775808 ≤ n ∧ n ≤ 9223372036854775807 then (n, 0) else (0, 3)
abbrev pairOf (p : Int × Int) : Value := .tuple #[.int .i64 p.1, .int .i64 p.2]
theorem within_in (n : Int) (h : in64 n) : within n = (n, 0) := if_pos h
theorem within_out (n : Int) (h : ¬ in64 n) : within n = (0, 3) := if_neg h
theorem ret_pair {x y : Int} {p : Int × Int} (h : p = (x, y)) : Ending.returned (.tuple #[.int .i64 x, .int .i64 y]) = .returned (pairOf p) := by subst h; rfl
theorem ret_u64 {x y : Int} (h : x = y) : Ending.returned (.int .u64 x) = .returned (.int .u64 y) := by rw [h]
theorem u64_negs (a : Int) (h : a < 0) (h' : -9223372036854775808 ≤ a) : IntKind.u64.wrap (-IntKind.u64.wrap a) = (a.natAbs : Int) := by
  rw [IntKind.wrap_u64, IntKind.wrap_u64]; omega
theorem wrap64_negs (u : Nat) (h : u ≤ 9223372036854775808) : wrap64 (-wrap64 (u : Int)) = -(u : Int) := by unfold wrap64; omega
theorem tdiv_in {a b : Int} (ha : in64 a) (hb : in64 b) (h0 : b ≠ 0) (h : ¬ (a = -9223372036854775808 ∧ b = -1)) : in64 (a.tdiv b) := by
  unfold in64 at *
  by_cases h1 : b = 1
  · subst h1; rw [Int.tdiv_one]; exact ha
  · by_cases h2 : b = -1
    · subst h2
      rw [Int.tdiv_neg, Int.tdiv_one]; omega
    · have h3 : 2 ≤ b.natAbs := by omega
      have h4 : (a.tdiv b).natAbs = a.natAbs / b.natAbs := Int.natAbs_tdiv a b
      have h5 : a.natAbs / b.natAbs ≤ a.natAbs / 2 := Nat.div_le_div_left h3 (by omega)
      omega
theorem wrap64_lo (n : Int) (h : n < -9223372036854775808) (h' : -18446744073709551616 ≤ n) : wrap64 n = n + 18446744073709551616 := by unfold wrap64; omega
theorem wrap64_hi (n : Int) (h : 9223372036854775807 < n) (h' : n < 18446744073709551616) : wrap64 n = n - 18446744073709551616 := by unfold wrap64; omega

set_option maxHeartbeats 400000 in
theorem add_any (a b : Int) (w : World) (ha : in64 a) (hb : in64 b) :
    Calls Tryd.prog 15 #[.int .i64 a, .int .i64 b] w fun e w' => e = .returned (pairOf (within (a + b))) ∧ w' = w := by
  unfold in64 at ha hb
  have hc : (a + b < -9223372036854775808) ∨ 9223372036854775807 < a + b ∨ in64 (a + b) := by unfold in64; omega
  rcases hc with h | h | h
  · rw [within_out _ (by unfold in64; omega)]
    have e := wrap64_lo (a + b) h (by omega)
    have d1 : decide (a + b + 18446744073709551616 < a) = false := decide_eq_false (by omega)
    have d2 : decide (b < 0) = true := decide_eq_true (by omega)
    go_enter Tryd.func15, Tryd.ntmps15
    go_wp2
    go_ret2
    exact ⟨rfl, rfl⟩
  · rw [within_out _ (by unfold in64; omega)]
    have e := wrap64_hi (a + b) h (by omega)
    have d1 : decide (a + b - 18446744073709551616 < a) = true := decide_eq_true (by omega)
    have d2 : decide (b < 0) = false := decide_eq_false (by omega)
    go_enter Tryd.func15, Tryd.ntmps15
    go_wp2
    go_ret2
    exact ⟨rfl, rfl⟩
  · rw [within_in _ h]
    unfold in64 at h
    have e := IntWalk.wrap64_in (a + b) h
    by_cases hb0 : b < 0
    · have d1 : decide (a + b < a) = true := decide_eq_true (by omega)
      have d2 : decide (b < 0) = true := decide_eq_true hb0
      go_enter Tryd.func15, Tryd.ntmps15
      go_wp2
      go_ret2
      exact ⟨rfl, rfl⟩
    · have d1 : decide (a + b < a) = false := decide_eq_false (by omega)
      have d2 : decide (b < 0) = false := decide_eq_false hb0
      go_enter Tryd.func15, Tryd.ntmps15
      go_wp2
      go_ret2
      exact ⟨rfl, rfl⟩

set_option maxHeartbeats 400000 in
theorem sub_any (a b : Int) (w : World) (ha : in64 a) (hb : in64 b) :
    Calls Tryd.prog 16 #[.int .i64 a, .int .i64 b] w fun e w' => e = .returned (pairOf (within (a - b))) ∧ w' = w := by
  unfold in64 at ha hb
  have hc : (a - b < -9223372036854775808) ∨ 9223372036854775807 < a - b ∨ in64 (a - b) := by unfold in64; omega
  rcases hc with h | h | h
  · rw [within_out _ (by unfold in64; omega)]
    have e := wrap64_lo (a - b) h (by omega)
    have d1 : decide (a < a - b + 18446744073709551616) = true := decide_eq_true (by omega)
    have d2 : decide (b < 0) = false := decide_eq_false (by omega)
    go_enter Tryd.func16, Tryd.ntmps16
    go_wp2
    go_ret2
    exact ⟨rfl, rfl⟩
  · rw [within_out _ (by unfold in64; omega)]
    have e := wrap64_hi (a - b) h (by omega)
    have d1 : decide (a < a - b - 18446744073709551616) = false := decide_eq_false (by omega)
    have d2 : decide (b < 0) = true := decide_eq_true (by omega)
    go_enter Tryd.func16, Tryd.ntmps16
    go_wp2
    go_ret2
    exact ⟨rfl, rfl⟩
  · rw [within_in _ h]
    unfold in64 at h
    have e := IntWalk.wrap64_in (a - b) h
    by_cases hb0 : b < 0
    · have d1 : decide (a < a - b) = true := decide_eq_true (by omega)
      have d2 : decide (b < 0) = true := decide_eq_true hb0
      go_enter Tryd.func16, Tryd.ntmps16
      go_wp2
      go_ret2
      exact ⟨rfl, rfl⟩
    · have d1 : decide (a < a - b) = false := decide_eq_false (by omega)
      have d2 : decide (b < 0) = false := decide_eq_false hb0
      go_enter Tryd.func16, Tryd.ntmps16
      go_wp2
      go_ret2
      exact ⟨rfl, rfl⟩

set_option maxHeartbeats 400000 in
theorem div_any (a b : Int) (w : World) (ha : in64 a) (hb : in64 b) :
    Calls Tryd.prog 18 #[.int .i64 a, .int .i64 b] w fun e w' => e = .returned (pairOf (if b = 0 then (0, 6) else within (a.tdiv b))) ∧ w' = w := by
  unfold in64 at ha hb
  by_cases h0 : b = 0
  · subst h0
    go_enter Tryd.func18, Tryd.ntmps18
    go_wp2
    go_ret2
    exact ⟨rfl, rfl⟩
  · rw [if_neg h0]
    by_cases h1 : a = -9223372036854775808
    · by_cases h2 : b = -1
      · subst h1 h2
        go_enter Tryd.func18, Tryd.ntmps18
        go_wp2
        go_ret2
        exact ⟨rfl, rfl⟩
      · have hw := tdiv_in ha hb h0 (by omega)
        rw [within_in _ hw]
        unfold in64 at hw
        have e := hide (IntWalk.wrap64_in (a.tdiv b) hw)
        have e2 := hide (show a.tdiv b = -Int.tdiv 9223372036854775808 b by rw [h1]; exact Int.neg_tdiv 9223372036854775808 b)
        clear hw
        go_enter Tryd.func18, Tryd.ntmps18
        go_wp2
        go_ret2
        exact ⟨ret_pair (by rw [← unhide e2, unhide e]), rfl⟩
    · have hw := tdiv_in ha hb h0 (by omega)
      rw [within_in _ hw]
      unfold in64 at hw
      have e := IntWalk.wrap64_in (a.tdiv b) hw
      go_enter Tryd.func18, Tryd.ntmps18
      go_wp2
      go_ret2
      exact ⟨rfl, rfl⟩

set_option maxHeartbeats 400000 in
theorem rem_any (a b : Int) (w : World) (_ha : in64 a) (hb : in64 b) :
    Calls Tryd.prog 19 #[.int .i64 a, .int .i64 b] w fun e w' => e = .returned (pairOf (if b = 0 then (0, 6) else (a.tmod b, 0))) ∧ w' = w := by
  unfold in64 at hb
  by_cases h0 : b = 0
  · subst h0
    go_enter Tryd.func19, Tryd.ntmps19
    go_wp2
    go_ret2
    exact ⟨rfl, rfl⟩
  · rw [if_neg h0]
    go_enter Tryd.func19, Tryd.ntmps19
    go_wp2
    go_ret2
    exact ⟨rfl, rfl⟩

set_option maxHeartbeats 400000 in
theorem size_any (a : Int) (w : World) (ha : in64 a) :
    Calls Tryd.prog 34 #[.int .i64 a] w fun e w' => e = .returned (.int .u64 (a.natAbs : Int)) ∧ w' = w := by
  unfold in64 at ha
  by_cases h0 : a < 0
  · go_enter Tryd.func34, Tryd.ntmps34
    go_wp2
    go_ret
    exact ⟨ret_u64 (u64_negs a h0 ha.1), rfl⟩
  · go_enter Tryd.func34, Tryd.ntmps34
    go_wp2
    go_ret
    exact ⟨ret_u64 (by omega), rfl⟩

set_option maxHeartbeats 400000 in
theorem signed_any (u : Nat) (s : Bool) (w : World) (hu : u < 18446744073709551616) :
    Calls Tryd.prog 35 #[.int .u64 u, .bool s] w fun e w' => e = .returned (pairOf (within (if s then -(u : Int) else u))) ∧ w' = w := by
  cases s
  · by_cases h : u ≤ 9223372036854775807
    · have H := hide (within_in (u : Int) (by unfold in64; omega))
      go_enter Tryd.func35, Tryd.ntmps35
      go_wp2
      go_ret2
      exact ⟨ret_pair (unhide H), rfl⟩
    · have H := hide (within_out (u : Int) (by unfold in64; omega))
      go_enter Tryd.func35, Tryd.ntmps35
      go_wp2
      go_ret2
      exact ⟨ret_pair (unhide H), rfl⟩
  · by_cases h : u ≤ 9223372036854775808
    · have H := hide (within_in (-(u : Int)) (by unfold in64; omega))
      have H2 := hide (wrap64_negs u h)
      go_enter Tryd.func35, Tryd.ntmps35
      go_wp2
      go_ret2
      exact ⟨ret_pair (by rw [unhide H2]; exact unhide H), rfl⟩
    · have H := hide (within_out (-(u : Int)) (by unfold in64; omega))
      go_enter Tryd.func35, Tryd.ntmps35
      go_wp2
      go_ret2
      exact ⟨ret_pair (unhide H), rfl⟩
end Go.Proofs.YtfjbafdgjpdbdaaDoor
