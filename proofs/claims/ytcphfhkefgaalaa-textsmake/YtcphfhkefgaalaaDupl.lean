/- What texts.Dupl does, for every text and number. -/
import Derived.Test.YtcphfhkefgaalaaClone
import Derived.Test.YtcphfhkefgaalaaRepeatLib
import Derived.OpenShut
namespace Go.Proofs.Ytcphfhkefgaalaa
open Go.RowKit

/-- A text, n times. -/
def rep (t : ByteArray) (n : Nat) : ByteArray := ⟨(Lib.repeatL t.data.toList n).toArray⟩
theorem rep_size (t : ByteArray) (n : Nat) : (rep t n).size = n * t.size := by
  show (Lib.repeatL t.data.toList n).toArray.size = _
  rw [List.size_toArray, Lib.repeatL_length]; simp
theorem rep_add (t : ByteArray) (n m : Nat) : rep t (n + m) = rep t n ++ rep t m := by
  apply ByteArray.ext
  rw [ByteArray.data_append]
  unfold rep
  rw [Lib.repeatL_add]; simp
theorem rep_empty (t : ByteArray) (n : Nat) (h : t.size = 0) : rep t n = ⟨#[]⟩ := by
  have e : t.data.toList = [] := List.eq_nil_of_length_eq_zero (by simpa using h)
  unfold rep
  rw [e, Lib.repeatL_nil]
theorem div_bound (s : Nat) (n : Int) (h : 0 < s) : n ≤ 65536 / (s : Int) ↔ n * (s : Int) ≤ 65536 :=
  Int.le_ediv_iff_mul_le (by omega)

set_option maxHeartbeats 400000 in
theorem dupl_much (t : ByteArray) (n : Int) (w : World) (hs : t.size ≤ maxLen) (hl : 65536 < t.size) :
    Calls Try.prog 7 #[.string t, .int .i64 n] w fun e w' => e = .returned (.tuple #[.string ⟨#[]⟩, .int .i64 4]) ∧ Below w.heap.size w w' := by
  have e1 : anyLong [t] = true := by rw [anyLong_one]; simpa using hl
  have HE : Hid (anyLong [t] = true) := e1
  clear e1
  go_enter Try.func7, Try.ntmps7
  go_wp2_with (go_at_call 18; refine (tooLong_one t _ _ hs (by simp)).mono ?_; rintro e w' ⟨rfl, rfl⟩; rw [HE.out])
  go_ret2
  exact ⟨rfl, (Below.refl _ _).alloc (Nat.le_refl _) _⟩

set_option maxHeartbeats 400000 in
theorem dupl_range (t : ByteArray) (n : Int) (w : World) (hl : t.size ≤ 65536) (_hn : n < 0) :
    Calls Try.prog 7 #[.string t, .int .i64 n] w fun e w' => e = .returned (.tuple #[.string ⟨#[]⟩, .int .i64 3]) ∧ Below w.heap.size w w' := by
  have e1 : anyLong [t] = false := by rw [anyLong_one]; simpa using hl
  have HE : Hid (anyLong [t] = false) := e1
  clear e1
  go_enter Try.func7, Try.ntmps7
  go_wp2_with (go_at_call 18; refine (tooLong_one t _ _ (by unfold maxLen; omega) (by simp)).mono ?_; rintro e w' ⟨rfl, rfl⟩; rw [HE.out])
  go_ret2
  exact ⟨rfl, (Below.refl _ _).alloc (Nat.le_refl _) _⟩

set_option maxHeartbeats 400000 in
theorem dupl_over (t : ByteArray) (n : Int) (w : World) (hl : t.size ≤ 65536) (hn : 0 ≤ n) (h : 65536 < n * (t.size : Int)) :
    Calls Try.prog 7 #[.string t, .int .i64 n] w fun e w' => e = .returned (.tuple #[.string ⟨#[]⟩, .int .i64 4]) ∧ Below w.heap.size w w' := by
  have e1 : anyLong [t] = false := by rw [anyLong_one]; simpa using hl
  have HE : Hid (anyLong [t] = false) := e1
  clear e1
  have h0 : t.size ≠ 0 := by intro e; rw [e] at h; simp at h
  have he := isEmpty_false t h0
  have hp : (1 : Int) ≤ (t.size : Int) := by omega
  have hq : (65536 : Int) / (t.size : Int) < n := by
    have := div_bound t.size n (by omega)
    omega
  clear h
  generalize hg : (65536 : Int) / (t.size : Int) = q at *
  go_enter Try.func7, Try.ntmps7
  go_wp2_with (go_at_call 18; refine (tooLong_one t _ _ (by unfold maxLen; omega) (by simp)).mono ?_; rintro e w' ⟨rfl, rfl⟩; rw [HE.out])
  go_ret2
  exact ⟨rfl, (Below.refl _ _).alloc (Nat.le_refl _) _⟩

set_option maxHeartbeats 400000 in
theorem dupl_ok (t : ByteArray) (n : Int) (w : World) (hl : t.size ≤ 65536) (hn : 0 ≤ n) (hn2 : n ≤ 9223372036854775807) (h : n * (t.size : Int) ≤ 65536) :
    Calls Try.prog 7 #[.string t, .int .i64 n] w fun e w' => e = .returned (.tuple #[.string (rep t n.toNat), .int .i64 0]) ∧ Below w.heap.size w w' := by
  have e1 : anyLong [t] = false := by rw [anyLong_one]; simpa using hl
  have HE : Hid (anyLong [t] = false) := e1
  clear e1
  by_cases h0 : t.size = 0
  · have he := isEmpty_true t h0
    rw [rep_empty t _ h0]
    clear h h0
    go_enter Try.func7, Try.ntmps7
    go_wp2_with (go_at_call 18; refine (tooLong_one t _ _ (by unfold maxLen; omega) (by simp)).mono ?_; rintro e w' ⟨rfl, rfl⟩; rw [HE.out])
    go_ret2
    exact ⟨rfl, (Below.refl _ _).alloc (Nat.le_refl _) _⟩
  · have he := isEmpty_false t h0
    have hp : (1 : Int) ≤ (t.size : Int) := by omega
    have hq : n ≤ (65536 : Int) / (t.size : Int) := (div_bound t.size n (by omega)).2 h
    obtain ⟨c, rfl⟩ := Int.eq_ofNat_of_zero_le hn
    rw [Int.toNat_natCast]
    have hc : c * t.size ≤ 65536 := by
      have : ((c * t.size : Nat) : Int) ≤ 65536 := by rw [Int.natCast_mul]; exact h
      omega
    have hc2 : t.size * c ≤ 140737488355328 := by rw [Nat.mul_comm]; omega
    have hsz : (rep t c).size ≤ 1000000 := by rw [rep_size]; omega
    have HC : Hid (t.size * c ≤ 140737488355328) := hc2
    have HZ : Hid ((rep t c).size ≤ 1000000) := hsz
    clear h hc hc2 hsz
    generalize hg : (65536 : Int) / (t.size : Int) = q at *
    go_enter Try.func7, Try.ntmps7
    go_wp2_with (first | (go_at_call 18; refine (tooLong_one t _ _ (by unfold maxLen; omega) (by simp)).mono ?_; rintro e w' ⟨rfl, rfl⟩; rw [HE.out]) | (go_at_call 20; refine (Try.strings_Repeat t c _ (by omega) HC.out).mono ?_; rintro e w1 ⟨rfl, hb1⟩) | (go_at_call 19; refine (clone_any (rep t c) _ HZ.out).mono ?_; rintro e w2 ⟨rfl, hb2⟩))
    go_ret2
    exact ⟨rfl, bnext (bnext ((Below.refl _ _).alloc (Nat.le_refl _) _) hb1) hb2⟩
end Go.Proofs.Ytcphfhkefgaalaa
