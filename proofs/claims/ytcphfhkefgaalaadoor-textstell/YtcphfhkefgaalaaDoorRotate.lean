/- What texts.Rotate does, for every text and number. -/
import Derived.Test.YtcphfhkefgaalaaDoorClone
import Derived.Test.YtcphfhkefgaalaaDoorRoundPlain
import Derived.OpenShut
import Derived.Deep.QuietTactic
import Derived.BigQuiet
import Derived.Deep.RegionWith
namespace Go.Proofs.YtcphfhkefgaalaaDoor
open Go.RowKit

set_option maxHeartbeats 400000 in
theorem rotate_much (t : ByteArray) (n : Int) (w : World) (hs : t.size ≤ maxLen) (hl : 65536 < t.size) :
    Calls Tryd.prog 9 #[.string t, .int .i64 n] w fun e w' => e = .returned (.tuple #[.string ⟨#[]⟩, .int .i64 4]) ∧ Below w.heap.size w w' := by
  have e1 : anyLong [t] = true := by rw [anyLong_one]; simpa using hl
  have HE : Hid (anyLong [t] = true) := e1
  clear e1
  go_enter Tryd.func9, Tryd.ntmps9
  go_wp2_with (go_at_call 20; refine (tooLong_one t _ _ hs (by simp)).mono ?_; rintro e w' ⟨rfl, rfl⟩; rw [HE.out])
  go_ret2
  exact ⟨rfl, (Below.refl _ _).alloc (Nat.le_refl _) _⟩

set_option maxHeartbeats 400000 in
theorem rotate_ok (t : ByteArray) (n : Int) (w : World) (hl : t.size ≤ 65536) (_b1 : -9223372036854775808 ≤ n) (_b2 : n ≤ 9223372036854775807) :
    Calls Tryd.prog 9 #[.string t, .int .i64 n] w fun e w' => e = .returned (.tuple #[.string (rot t n), .int .i64 0]) ∧ Below w.heap.size w w' := by
  have e1 : anyLong [t] = false := by rw [anyLong_one]; simpa using hl
  have HE : Hid (anyLong [t] = false) := e1
  clear e1
  by_cases h0 : t.size = 0
  · have he := isEmpty_true t h0
    rw [rot_empty t n h0]
    clear h0
    go_enter Tryd.func9, Tryd.ntmps9
    go_wp2_with (go_at_call 20; refine (tooLong_one t _ _ (by unfold maxLen; omega) (by simp)).mono ?_; rintro e w' ⟨rfl, rfl⟩; rw [HE.out])
    go_ret2
    exact ⟨rfl, (Below.refl _ _).alloc (Nat.le_refl _) _⟩
  · have he := isEmpty_false t h0
    have hp : 0 < t.size := by omega
    have hp' : (1 : Int) ≤ (t.size : Int) := by omega
    have hlt := rotK_lt t.size n hp
    have hcast := rotK_cast t.size n hp
    have hrot : rot t n = t.extract (rotK t.size n) t.size ++ t.extract 0 (rotK t.size n) := rfl
    generalize rotK t.size n = k at *
    rw [hrot]
    clear hrot
    have hsz : (t.extract k t.size ++ t.extract 0 k).size ≤ 1000000 := by rw [ByteArray.size_append, ByteArray.size_extract, ByteArray.size_extract]; omega
    have hcs := tmod_cases n t.size hp
    rw [← hcast] at hcs
    by_cases hk : 0 ≤ n.tmod t.size
    · have hkk : n.tmod t.size = (k : Int) := hcs.1 hk
      clear hcast hk hcs
      go_enter Tryd.func9, Tryd.ntmps9
      go_wp2_with (go_at_call 20; refine (tooLong_one t _ _ (by unfold maxLen; omega) (by simp)).mono ?_; rintro e w' ⟨rfl, rfl⟩; rw [HE.out])
      go_region_with (go_at_call 21; refine (clone_any _ _ hsz).mono ?_; rintro e w' ⟨rfl, hb⟩)
      all_goals go_wp2
      all_goals go_ret2
      all_goals exact ⟨rfl, bnext ((Below.refl _ _).alloc (Nat.le_refl _) _).drew hb⟩
    · have hkk : n.tmod t.size = (k : Int) - (t.size : Int) := hcs.2 (by omega)
      clear hcast hk hcs
      go_enter Tryd.func9, Tryd.ntmps9
      go_wp2_with (go_at_call 20; refine (tooLong_one t _ _ (by unfold maxLen; omega) (by simp)).mono ?_; rintro e w' ⟨rfl, rfl⟩; rw [HE.out])
      go_region_with (go_at_call 21; refine (clone_any _ _ hsz).mono ?_; rintro e w' ⟨rfl, hb⟩)
      all_goals go_wp2
      all_goals go_ret2
      all_goals exact ⟨rfl, bnext ((Below.refl _ _).alloc (Nat.le_refl _) _).drew hb⟩

end Go.Proofs.YtcphfhkefgaalaaDoor
