/- What texts.Rotate does, for every text and number, and what the law TextsRound answers: true. -/
import Derived.Test.YtcphfhkefgaalabClone
import Derived.Test.YtcphfhkefgaalabRoundPlain
import Derived.OpenShut
import Derived.Deep.QuietTactic
import Derived.BigQuiet
import Derived.Deep.RegionWith
namespace Go.Proofs.Ytcphfhkefgaalab
open Go.RowKit

theorem isEmpty_true (t : ByteArray) (h : t.size = 0) : t.toList.isEmpty = true := by
  rw [ByteArray.toList_eq, List.isEmpty_iff]; apply List.eq_nil_of_length_eq_zero; simpa using h
theorem isEmpty_false (t : ByteArray) (h : t.size ≠ 0) : t.toList.isEmpty = false := by
  rw [ByteArray.toList_eq]
  apply Bool.eq_false_iff.2
  intro e
  rw [List.isEmpty_iff] at e
  apply h
  have := congrArg List.length e
  simpa using this

set_option maxHeartbeats 400000 in
theorem rotate_much (t : ByteArray) (n : Int) (w : World) (hs : t.size ≤ maxLen) (hl : 65536 < t.size) :
    Calls Try.prog 13 #[.string t, .int .i64 n] w fun e w' => e = .returned (.tuple #[.string ⟨#[]⟩, .int .i64 4]) ∧ Below w.heap.size w w' := by
  have e1 : anyLong [t] = true := by rw [anyLong_one]; simpa using hl
  have HE : Hid (anyLong [t] = true) := e1
  clear e1
  go_enter Try.func13, Try.ntmps13
  go_wp2_with (go_at_call 18; refine (tooLong_one t _ _ hs (by simp)).mono ?_; rintro e w' ⟨rfl, rfl⟩; rw [HE.out])
  go_ret2
  exact ⟨rfl, (Below.refl _ _).alloc (Nat.le_refl _) _⟩

set_option maxHeartbeats 400000 in
theorem rotate_ok (t : ByteArray) (n : Int) (w : World) (hl : t.size ≤ 65536) (_b1 : -9223372036854775808 ≤ n) (_b2 : n ≤ 9223372036854775807) :
    Calls Try.prog 13 #[.string t, .int .i64 n] w fun e w' => e = .returned (.tuple #[.string (rot t n), .int .i64 0]) ∧ Below w.heap.size w w' := by
  have e1 : anyLong [t] = false := by rw [anyLong_one]; simpa using hl
  have HE : Hid (anyLong [t] = false) := e1
  clear e1
  by_cases h0 : t.size = 0
  · have he := isEmpty_true t h0
    rw [rot_empty t n h0]
    clear h0
    go_enter Try.func13, Try.ntmps13
    go_wp2_with (go_at_call 18; refine (tooLong_one t _ _ (by unfold maxLen; omega) (by simp)).mono ?_; rintro e w' ⟨rfl, rfl⟩; rw [HE.out])
    go_ret2
    exact ⟨rfl, (Below.refl _ _).alloc (Nat.le_refl _) _⟩
  · have he := isEmpty_false t h0
    have hp : 0 < t.size := by omega
    have hp' : (1 : Int) ≤ (t.size : Int) := by omega
    have hlt := rotK_lt t.size n hp
    have hcast := rotK_cast t.size n hp
    have hrot : rot t n = t.extract (rotK t.size n) t.size ++ t.extract 0 (rotK t.size n) := rfl
    generalize rotK t.size n = k at *
    rw [hrot]
    clear hrot
    have hsz : (t.extract k t.size ++ t.extract 0 k).size ≤ 1000000 := by rw [ByteArray.size_append, ByteArray.size_extract, ByteArray.size_extract]; omega
    have hcs := tmod_cases n t.size hp
    rw [← hcast] at hcs
    by_cases hk : 0 ≤ n.tmod t.size
    · have hkk : n.tmod t.size = (k : Int) := hcs.1 hk
      clear hcast hk hcs
      go_enter Try.func13, Try.ntmps13
      go_wp2_with (go_at_call 18; refine (tooLong_one t _ _ (by unfold maxLen; omega) (by simp)).mono ?_; rintro e w' ⟨rfl, rfl⟩; rw [HE.out])
      go_region_with (go_at_call 17; refine (clone_any _ _ hsz).mono ?_; rintro e w' ⟨rfl, hb⟩)
      all_goals go_wp2
      all_goals go_ret2
      all_goals exact ⟨rfl, bnext ((Below.refl _ _).alloc (Nat.le_refl _) _).drew hb⟩
    · have hkk : n.tmod t.size = (k : Int) - (t.size : Int) := hcs.2 (by omega)
      clear hcast hk hcs
      go_enter Try.func13, Try.ntmps13
      go_wp2_with (go_at_call 18; refine (tooLong_one t _ _ (by unfold maxLen; omega) (by simp)).mono ?_; rintro e w' ⟨rfl, rfl⟩; rw [HE.out])
      go_region_with (go_at_call 17; refine (clone_any _ _ hsz).mono ?_; rintro e w' ⟨rfl, hb⟩)
      all_goals go_wp2
      all_goals go_ret2
      all_goals exact ⟨rfl, bnext ((Below.refl _ _).alloc (Nat.le_refl _) _).drew hb⟩

set_option maxHeartbeats 1000000 in
theorem textsRound_walk (a0 : ByteArray) (a1 : Int) (a2 : Int) (w0 : a0.size ≤ maxLen) (w1 : (Lit.int .i64 a1).wf = true) (w2 : (Lit.int .i64 a2).wf = true) (w : World) :
    Calls Try.prog 6 #[.string a0, .int .i64 a1, .int .i64 a2] w fun e w' => e = .returned (.bool true) ∧ Below w.heap.size w w' := by
  have b1 := bounds_i64 w1
  have b2 := bounds_i64 w2
  clear w1 w2
  by_cases h0 : a0.size ≤ 65536
  · have hlen : (((rot a0 a1).size : Int) == (a0.size : Int)) = true := by rw [rot_size]; simp
    have hr : (rot a0 a1).size ≤ 65536 := by rw [rot_size]; exact h0
    have hcases : 1099511627776 < a1 ∨ (a1 ≤ 1099511627776 ∧ a1 < -1099511627776) ∨ (a1 ≤ 1099511627776 ∧ -1099511627776 ≤ a1 ∧ 1099511627776 < a2) ∨ (a1 ≤ 1099511627776 ∧ -1099511627776 ≤ a1 ∧ a2 ≤ 1099511627776 ∧ a2 < -1099511627776) ∨ (a1 ≤ 1099511627776 ∧ -1099511627776 ≤ a1 ∧ a2 ≤ 1099511627776 ∧ -1099511627776 ≤ a2) := by omega
    rcases hcases with h | ⟨h, h'⟩ | ⟨h, h', h''⟩ | ⟨h, h', h'', h3⟩ | ⟨h, h', h'', h3⟩
    case inr.inr.inr.inr =>
      have hneg : wrap64 (-a1) = -a1 := IntWalk.wrap64_in (-a1) (by omega)
      go_enter Try.func6, Try.ntmps6
      go_wp2_with fail
      refine (alive_any _).mono ?_
      rintro e w3 ⟨rfl, hb3⟩
      go_wp2_with fail
      refine (rotate_ok a0 a1 _ h0 b1.1 b1.2).mono ?_
      rintro e w4 ⟨rfl, hb4⟩
      go_wp2_with fail
      refine (rotate_ok (rot a0 a1) a2 _ hr b2.1 b2.2).mono ?_
      rintro e w5 ⟨rfl, hb5⟩
      rw [rot_rot]
      go_wp2_with fail
      refine (rotate_ok a0 (a1 + a2) _ h0 (by omega) (by omega)).mono ?_
      rintro e w6 ⟨rfl, hb6⟩
      go_wp2_with fail
      refine (rotate_ok (rot a0 a1) (-a1) _ hr (by omega) (by omega)).mono ?_
      rintro e w7 ⟨rfl, hb7⟩
      rw [rot_back]
      go_wp2_with fail
      refine (rotate_ok a0 (a0.size : Int) _ h0 (by omega) (by omega)).mono ?_
      rintro e w8 ⟨rfl, hb8⟩
      rw [rot_whole]
      go_wp2
      go_ret
      exact ⟨rfl, bnext (bnext (bnext (bnext (bnext hb3 hb4) hb5) hb6) hb7) hb8⟩
    all_goals
      go_enter Try.func6, Try.ntmps6
      go_wp2_with fail
      refine (alive_any _).mono ?_
      rintro e w3 ⟨rfl, hb3⟩
      go_wp2_with fail
      refine (rotate_ok a0 a1 _ h0 b1.1 b1.2).mono ?_
      rintro e w4 ⟨rfl, hb4⟩
      go_wp2
      go_ret
      exact ⟨rfl, bnext hb3 hb4⟩
  · go_enter Try.func6, Try.ntmps6
    go_wp2_with fail
    refine (alive_any _).mono ?_
    rintro e w3 ⟨rfl, hb3⟩
    go_wp2_with fail
    refine (rotate_much a0 a1 _ w0 (by omega)).mono ?_
    rintro e w4 ⟨rfl, hb4⟩
    go_wp2
    go_ret
    exact ⟨rfl, bnext hb3 hb4⟩
end Go.Proofs.Ytcphfhkefgaalab
