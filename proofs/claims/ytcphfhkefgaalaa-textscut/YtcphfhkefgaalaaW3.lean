/- What strings.Clone and texts.Substr do, for every input, and what the law TextsCut answers: true. -/
import Derived.Test.YtcphfhkefgaalaaW1
import Derived.Test.YtcphfhkefgaalaaClone
import Derived.OpenShut
namespace Go.Proofs.Ytcphfhkefgaalaa
open Go.RowKit

/-- The n bytes of t from byte a on; the first byte is 1. -/
def sub (t : ByteArray) (a n : Nat) : ByteArray := t.extract (a - 1) (a - 1 + n)
theorem sub_size (t : ByteArray) (a n : Nat) (h : a - 1 + n ≤ t.size) : (sub t a n).size = n := by
  unfold sub; rw [ByteArray.size_extract]; omega
theorem sub_three (t : ByteArray) (a n : Nat) (h1 : 1 ≤ a) (h : a - 1 + n ≤ t.size) : sub t 1 (a - 1) ++ sub t a n ++ sub t (a + n) (t.size + 1 - a - n) = t := by
  unfold sub
  apply ByteArray.ext
  rw [ByteArray.data_append, ByteArray.data_append, ByteArray.data_extract, ByteArray.data_extract, ByteArray.data_extract]
  have hd : t.data.size = t.size := rfl
  rw [show 1 - 1 + (a - 1) = a - 1 from by omega, show a + n - 1 = a - 1 + n from by omega, show a - 1 + n + (t.size + 1 - a - n) = t.size from by omega]
  rw [Array.extract_append_extract, show max (a - 1) (a - 1 + n) = a - 1 + n from by omega, show min (1 - 1) (a - 1) = 0 from by omega]
  rw [Array.extract_append_extract, show max (a - 1 + n) t.size = t.data.size from by omega, show min 0 (a - 1 + n) = 0 from by omega]
  simp

set_option maxHeartbeats 400000 in
theorem clone_any (s : ByteArray) (w : World) (hs : s.size ≤ 1000000) : Calls Try.prog 19 #[.string s] w fun e w' => e = .returned (.string s) ∧ Below w.heap.size w w' := by
  go_enter Try.func19, Try.ntmps19
  go_wp2_with (go_at_call 24; refine (Try.stringslite_Clone s _ (by omega)).mono ?_; rintro e w' ⟨rfl, hb⟩)
  go_ret
  exact ⟨rfl, hb⟩

set_option maxHeartbeats 400000 in
theorem substr_much (t : ByteArray) (at_ n : Int) (w : World) (hs : t.size ≤ maxLen) (hl : 65536 < t.size) :
    Calls Try.prog 11 #[.string t, .int .i64 at_, .int .i64 n] w fun e w' => e = .returned (.tuple #[.string ⟨#[]⟩, .int .i64 4]) ∧ Below w.heap.size w w' := by
  have e1 : anyLong [t] = true := by rw [anyLong_one]; simpa using hl
  have HE : Hid (anyLong [t] = true) := e1
  clear e1
  go_enter Try.func11, Try.ntmps11
  go_wp2_with (go_at_call 18; refine (tooLong_one t _ _ hs (by simp)).mono ?_; rintro e w' ⟨rfl, rfl⟩; rw [HE.out])
  go_ret2
  exact ⟨rfl, (Below.refl _ _).alloc (Nat.le_refl _) _⟩

set_option maxHeartbeats 400000 in
theorem substr_ok (t : ByteArray) (at_ n : Int) (w : World) (hl : t.size ≤ 65536) (h1 : 1 ≤ at_) (h2 : 0 ≤ n) (h3 : at_ - 1 + n ≤ t.size) :
    Calls Try.prog 11 #[.string t, .int .i64 at_, .int .i64 n] w fun e w' => e = .returned (.tuple #[.string (sub t at_.toNat n.toNat), .int .i64 0]) ∧ Below w.heap.size w w' := by
  have e1 : anyLong [t] = false := by rw [anyLong_one]; simpa using hl
  have HE : Hid (anyLong [t] = false) := e1
  clear e1
  go_enter Try.func11, Try.ntmps11
  go_wp2_with (go_at_call 18; refine (tooLong_one t _ _ (by unfold maxLen; omega) (by simp)).mono ?_; rintro e w' ⟨rfl, rfl⟩; rw [HE.out])
  rw [show (at_ - 1 + n).toNat = at_.toNat - 1 + n.toNat from by omega]
  refine (clone_any (sub t at_.toNat n.toNat) _ (by rw [sub_size _ _ _ (by omega)]; omega)).mono ?_
  rintro e w' ⟨rfl, hb⟩
  go_wp2
  go_ret2
  exact ⟨rfl, bnext ((Below.refl _ _).alloc (Nat.le_refl _) _) hb⟩

set_option maxHeartbeats 400000 in
theorem substr_none (t : ByteArray) (at_ n : Int) (w : World) (hl : t.size ≤ 65536) (h : at_ < 1 ∨ n < 0 ∨ (t.size : Int) < at_ - 1 ∨ (t.size : Int) - (at_ - 1) < n)
   (ha : -9223372036854775808 ≤ at_) (ha2 : at_ ≤ 9223372036854775807) :
    Calls Try.prog 11 #[.string t, .int .i64 at_, .int .i64 n] w fun e w' => e = .returned (.tuple #[.string ⟨#[]⟩, .int .i64 6]) ∧ Below w.heap.size w w' := by
  have e1 : anyLong [t] = false := by rw [anyLong_one]; simpa using hl
  have HE : Hid (anyLong [t] = false) := e1
  clear e1
  have hcases : at_ < 1 ∨ (1 ≤ at_ ∧ n < 0) ∨ (1 ≤ at_ ∧ 0 ≤ n ∧ (t.size : Int) < at_ - 1) ∨ (1 ≤ at_ ∧ 0 ≤ n ∧ at_ - 1 ≤ (t.size : Int) ∧ (t.size : Int) - (at_ - 1) < n) := by omega
  clear h
  rcases hcases with h | ⟨h, h'⟩ | ⟨h, h', h''⟩ | ⟨h, h', h'', h3⟩
  all_goals
    go_enter Try.func11, Try.ntmps11
    go_wp2_with (go_at_call 18; refine (tooLong_one t _ _ (by unfold maxLen; omega) (by simp)).mono ?_; rintro e w' ⟨rfl, rfl⟩; rw [HE.out])
    go_ret2
    exact ⟨rfl, (Below.refl _ _).alloc (Nat.le_refl _) _⟩

theorem sub_three_at (t : ByteArray) (at_ n : Int) (h1 : 1 ≤ at_) (h2 : 0 ≤ n) (h3 : at_ - 1 + n ≤ t.size) :
    sub t (1 : Int).toNat (at_ - 1).toNat ++ sub t at_.toNat n.toNat ++ sub t (at_ + n).toNat ((t.size : Int) - at_ - n + 1).toNat = t := by
  have e := sub_three t at_.toNat n.toNat (by omega) (by omega)
  rw [show (1 : Int).toNat = 1 from rfl, show (at_ - 1).toNat = at_.toNat - 1 from by omega, show (at_ + n).toNat = at_.toNat + n.toNat from by omega, show ((t.size : Int) - at_ - n + 1).toNat = t.size + 1 - at_.toNat - n.toNat from by omega]
  exact e

theorem ret_bool {a b : Bool} (h : a = b) : Ending.returned (.bool a) = .returned (.bool b) := by rw [h]

set_option maxHeartbeats 1000000 in
theorem textsCut_walk (a0 : ByteArray) (a1 : Int) (a2 : Int) (w0 : a0.size ≤ maxLen) (w1 : (Lit.int .i64 a1).wf = true) (w2 : (Lit.int .i64 a2).wf = true) (w : World) :
    Calls Try.prog 6 #[.string a0, .int .i64 a1, .int .i64 a2] w fun e w' => e = .returned (.bool true) ∧ Below w.heap.size w w' := by
  have b1 := bounds_i64 w1
  have b2 := bounds_i64 w2
  by_cases h0 : a0.size ≤ 65536
  · by_cases hok : 1 ≤ a1 ∧ 0 ≤ a2 ∧ a1 - 1 + a2 ≤ a0.size
    · obtain ⟨h1, h2, h3⟩ := hok
      go_enter Try.func6, Try.ntmps6
      go_wp2_with fail
      refine (alive_any _).mono ?_
      rintro e w3 ⟨rfl, hb3⟩
      go_wp2_with fail
      refine (substr_ok a0 a1 a2 _ h0 h1 h2 h3).mono ?_
      rintro e w4 ⟨rfl, hb4⟩
      have hfin := sub_three_at a0 a1 a2 h1 h2 h3
      have hz := sub_size a0 a1.toNat a2.toNat (by omega)
      have hx := sub_size a0 (1 : Int).toNat (a1 - 1).toNat (by omega)
      have hy := sub_size a0 (a1 + a2).toNat ((a0.size : Int) - a1 - a2 + 1).toNat (by omega)
      obtain ⟨y, ey⟩ : ∃ y, y = sub a0 a1.toNat a2.toNat := ⟨_, rfl⟩
      rw [← ey] at hfin hz
      rw [← ey]
      have HY : Hid (y = sub a0 a1.toNat a2.toNat) := ey
      clear ey
      obtain ⟨x, ex⟩ : ∃ x, x = sub a0 (1 : Int).toNat (a1 - 1).toNat := ⟨_, rfl⟩
      rw [← ex] at hfin hx
      have HX : Hid (x = sub a0 (1 : Int).toNat (a1 - 1).toNat) := ex
      clear ex
      obtain ⟨z, ez⟩ : ∃ z, z = sub a0 (a1 + a2).toNat ((a0.size : Int) - a1 - a2 + 1).toNat := ⟨_, rfl⟩
      rw [← ez] at hfin hy
      have HZ : Hid (z = sub a0 (a1 + a2).toNat ((a0.size : Int) - a1 - a2 + 1).toNat) := ez
      clear ez
      have HF : Hid (x ++ y ++ z = a0) := hfin
      clear hfin
      have HY2 : Hid (y.size = a2.toNat) := hz
      have hxb : x.size ≤ 65536 := by omega
      have hyb : y.size ≤ 65536 := by omega
      have hzb : z.size ≤ 65536 := by omega
      have hye : ((y.size : Int) == a2) = true := by simp; omega
      clear hx hz hy
      go_wp2_with fail
      refine (substr_ok a0 1 (a1 - 1) _ h0 (by omega) (by omega) (by omega)).mono ?_
      rintro e w5 ⟨rfl, hb5⟩
      rw [← HX.out]
      go_wp2_with fail
      refine (substr_ok a0 (a1 + a2) _ _ h0 (by omega) (by omega) (by omega)).mono ?_
      rintro e w6 ⟨rfl, hb6⟩
      rw [← HZ.out]
      have heq : ((x ++ y ++ z).toList == a0.toList) = true := by rw [HF.out]; simp
      go_wp2
      go_ret
      exact ⟨rfl, bnext (bnext (bnext hb3 hb4) hb5) hb6⟩
    · go_enter Try.func6, Try.ntmps6
      go_wp2_with fail
      refine (alive_any _).mono ?_
      rintro e w3 ⟨rfl, hb3⟩
      go_wp2_with fail
      refine (substr_none a0 a1 a2 _ h0 (by omega) b1.1 b1.2).mono ?_
      rintro e w4 ⟨rfl, hb4⟩
      go_wp2
      all_goals go_ret
      all_goals first | exact ⟨rfl, bnext hb3 hb4⟩ | (refine ⟨ret_bool ?_, bnext hb3 hb4⟩; simp; omega)
  · go_enter Try.func6, Try.ntmps6
    go_wp2_with fail
    refine (alive_any _).mono ?_
    rintro e w3 ⟨rfl, hb3⟩
    go_wp2_with fail
    refine (substr_much a0 a1 a2 _ w0 (by omega)).mono ?_
    rintro e w4 ⟨rfl, hb4⟩
    go_wp2
    go_ret
    exact ⟨rfl, bnext hb3 hb4⟩
end Go.Proofs.Ytcphfhkefgaalaa
