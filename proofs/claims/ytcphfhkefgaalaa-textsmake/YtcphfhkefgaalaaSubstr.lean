/- What texts.Substr does, for every text and two numbers. -/
import Derived.Test.YtcphfhkefgaalaaClone
import Derived.OpenShut
namespace Go.Proofs.Ytcphfhkefgaalaa
open Go.RowKit

/-- The n bytes of t from byte a on; the first byte is 1. -/
def sub (t : ByteArray) (a n : Nat) : ByteArray := t.extract (a - 1) (a - 1 + n)
theorem sub_size (t : ByteArray) (a n : Nat) (h : a - 1 + n ≤ t.size) : (sub t a n).size = n := by
  unfold sub; rw [ByteArray.size_extract]; omega
theorem sub_three (t : ByteArray) (a n : Nat) (h1 : 1 ≤ a) (h : a - 1 + n ≤ t.size) : sub t 1 (a - 1) ++ sub t a n ++ sub t (a + n) (t.size + 1 - a - n) = t := by
  unfold sub
  apply ByteArray.ext
  rw [ByteArray.data_append, ByteArray.data_append, ByteArray.data_extract, ByteArray.data_extract, ByteArray.data_extract]
  have hd : t.data.size = t.size := rfl
  rw [show 1 - 1 + (a - 1) = a - 1 from by omega, show a + n - 1 = a - 1 + n from by omega, show a - 1 + n + (t.size + 1 - a - n) = t.size from by omega]
  rw [Array.extract_append_extract, show max (a - 1) (a - 1 + n) = a - 1 + n from by omega, show min (1 - 1) (a - 1) = 0 from by omega]
  rw [Array.extract_append_extract, show max (a - 1 + n) t.size = t.data.size from by omega, show min 0 (a - 1 + n) = 0 from by omega]
  simp

set_option maxHeartbeats 400000 in
theorem substr_much (t : ByteArray) (at_ n : Int) (w : World) (hs : t.size ≤ maxLen) (hl : 65536 < t.size) :
    Calls Try.prog 11 #[.string t, .int .i64 at_, .int .i64 n] w fun e w' => e = .returned (.tuple #[.string ⟨#[]⟩, .int .i64 4]) ∧ Below w.heap.size w w' := by
  have e1 : anyLong [t] = true := by rw [anyLong_one]; simpa using hl
  have HE : Hid (anyLong [t] = true) := e1
  clear e1
  go_enter Try.func11, Try.ntmps11
  go_wp2_with (go_at_call 18; refine (tooLong_one t _ _ hs (by simp)).mono ?_; rintro e w' ⟨rfl, rfl⟩; rw [HE.out])
  go_ret2
  exact ⟨rfl, (Below.refl _ _).alloc (Nat.le_refl _) _⟩

set_option maxHeartbeats 400000 in
theorem substr_ok (t : ByteArray) (at_ n : Int) (w : World) (hl : t.size ≤ 65536) (h1 : 1 ≤ at_) (h2 : 0 ≤ n) (h3 : at_ - 1 + n ≤ t.size) :
    Calls Try.prog 11 #[.string t, .int .i64 at_, .int .i64 n] w fun e w' => e = .returned (.tuple #[.string (sub t at_.toNat n.toNat), .int .i64 0]) ∧ Below w.heap.size w w' := by
  have e1 : anyLong [t] = false := by rw [anyLong_one]; simpa using hl
  have HE : Hid (anyLong [t] = false) := e1
  clear e1
  go_enter Try.func11, Try.ntmps11
  go_wp2_with (go_at_call 18; refine (tooLong_one t _ _ (by unfold maxLen; omega) (by simp)).mono ?_; rintro e w' ⟨rfl, rfl⟩; rw [HE.out])
  rw [show (at_ - 1 + n).toNat = at_.toNat - 1 + n.toNat from by omega]
  refine (clone_any (sub t at_.toNat n.toNat) _ (by rw [sub_size _ _ _ (by omega)]; omega)).mono ?_
  rintro e w' ⟨rfl, hb⟩
  go_wp2
  go_ret2
  exact ⟨rfl, bnext ((Below.refl _ _).alloc (Nat.le_refl _) _) hb⟩

set_option maxHeartbeats 400000 in
theorem substr_none (t : ByteArray) (at_ n : Int) (w : World) (hl : t.size ≤ 65536) (h : at_ < 1 ∨ n < 0 ∨ (t.size : Int) < at_ - 1 ∨ (t.size : Int) - (at_ - 1) < n)
   (ha : -9223372036854775808 ≤ at_) (ha2 : at_ ≤ 9223372036854775807) :
    Calls Try.prog 11 #[.string t, .int .i64 at_, .int .i64 n] w fun e w' => e = .returned (.tuple #[.string ⟨#[]⟩, .int .i64 6]) ∧ Below w.heap.size w w' := by
  have e1 : anyLong [t] = false := by rw [anyLong_one]; simpa using hl
  have HE : Hid (anyLong [t] = false) := e1
  clear e1
  have hcases : at_ < 1 ∨ (1 ≤ at_ ∧ n < 0) ∨ (1 ≤ at_ ∧ 0 ≤ n ∧ (t.size : Int) < at_ - 1) ∨ (1 ≤ at_ ∧ 0 ≤ n ∧ at_ - 1 ≤ (t.size : Int) ∧ (t.size : Int) - (at_ - 1) < n) := by omega
  clear h
  rcases hcases with h | ⟨h, h'⟩ | ⟨h, h', h''⟩ | ⟨h, h', h'', h3⟩
  all_goals
    go_enter Try.func11, Try.ntmps11
    go_wp2_with (go_at_call 18; refine (tooLong_one t _ _ (by unfold maxLen; omega) (by simp)).mono ?_; rintro e w' ⟨rfl, rfl⟩; rw [HE.out])
    go_ret2
    exact ⟨rfl, (Below.refl _ _).alloc (Nat.le_refl _) _⟩

theorem sub_three_at (t : ByteArray) (at_ n : Int) (h1 : 1 ≤ at_) (h2 : 0 ≤ n) (h3 : at_ - 1 + n ≤ t.size) :
    sub t (1 : Int).toNat (at_ - 1).toNat ++ sub t at_.toNat n.toNat ++ sub t (at_ + n).toNat ((t.size : Int) - at_ - n + 1).toNat = t := by
  have e := sub_three t at_.toNat n.toNat (by omega) (by omega)
  rw [show (1 : Int).toNat = 1 from rfl, show (at_ - 1).toNat = at_.toNat - 1 from by omega, show (at_ + n).toNat = at_.toNat + n.toNat from by omega, show ((t.size : Int) - at_ - n + 1).toNat = t.size + 1 - at_.toNat - n.toNat from by omega]
  exact e

end Go.Proofs.Ytcphfhkefgaalaa
