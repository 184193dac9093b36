/- What texts.Count does, for every two texts. -/
import Derived.Test.YtcphfhkefgaalabDoorClone
import Derived.Test.YtcphfhkefgaalabDoorCountLib
import Derived.Test.YtcphfhkefgaalabDoorCountPlain
import Derived.OpenShut
namespace Go.Proofs.YtcphfhkefgaalabDoor
open Go.RowKit

/-- How often a text stands in another one, and what is wrong. -/
def countE (t p : ByteArray) : Int := if anyLong [t, p] then 4 else if p.size = 0 then 8 else 0
def countV (t p : ByteArray) : Int := if countE t p = 0 then ((Lib.countB t p : Nat) : Int) else 0
theorem countE_zero (t p : ByteArray) (h : countE t p = 0) : t.size ≤ 65536 ∧ p.size ≤ 65536 ∧ 1 ≤ p.size := by
  unfold countE at h
  split at h
  · simp at h
  · rename_i hl
    split at h
    · simp at h
    · rw [anyLong_two] at hl
      simp at hl
      omega
theorem countE_ok (t p : ByteArray) (h1 : t.size ≤ 65536) (h2 : p.size ≤ 65536) (h3 : 1 ≤ p.size) : countE t p = 0 := by
  have e : anyLong [t, p] = false := by rw [anyLong_two]; simp; omega
  unfold countE
  rw [e, if_neg (by simp), if_neg (by omega)]

set_option maxHeartbeats 400000 in
theorem count_any (t p : ByteArray) (m : Int) (w : World) (ht : t.size ≤ maxLen) (hp : p.size ≤ maxLen) (hm : w.cell? ⟨0, 0, none⟩ = some (.int .i64 m)) :
    Calls Tryd.prog 7 #[.string t, .string p] w fun e w' => e = .returned (.tuple #[.int .i64 (countV t p), .int .i64 (countE t p)]) ∧ Below w.heap.size w w' := by
  by_cases hl : anyLong [t, p] = true
  · have e : countE t p = 4 := by simp [countE, hl]
    have v : countV t p = 0 := by simp [countV, e]
    rw [v, e]
    have HE := hide hl
    clear hl e v hm
    go_enter Tryd.func7, Tryd.ntmps7
    go_wp2_with (go_at_call 10; refine (tooLong_two t p _ _ ht hp (by simp) (by simp)).mono ?_; rintro e w' ⟨rfl, rfl⟩; rw [unhide HE])
    go_ret2
    exact ⟨rfl, (Below.refl _ _).alloc (Nat.le_refl _) _⟩
  · have hl : anyLong [t, p] = false := Bool.eq_false_iff.2 hl
    by_cases h0 : p.size = 0
    · have e : countE t p = 8 := by simp [countE, hl, h0]
      have v : countV t p = 0 := by simp [countV, e]
      rw [v, e]
      have HE := hide hl
      have hemp := isEmpty_true p h0
      clear hl e v hm h0
      go_enter Tryd.func7, Tryd.ntmps7
      go_wp2_with (go_at_call 10; refine (tooLong_two t p _ _ ht hp (by simp) (by simp)).mono ?_; rintro e w' ⟨rfl, rfl⟩; rw [unhide HE])
      go_ret2
      exact ⟨rfl, (Below.refl _ _).alloc (Nat.le_refl _) _⟩
    · have e : countE t p = 0 := by simp [countE, hl, h0]
      have v : countV t p = ((Lib.countB t p : Nat) : Int) := by simp [countV, e]
      have hz := countE_zero t p e
      rw [v, e]
      have HE := hide hl
      have hemp := isEmpty_false p h0
      have hc := fun W hW => Tryd.strings_Count_any t p m W (by omega) hW hz.2.2
      generalize Lib.countB t p = c at *
      have HC := hide hc
      clear hl e v h0 hz hc
      go_enter Tryd.func7, Tryd.ntmps7
      go_wp2_with (first | (go_at_call 10; refine (tooLong_two t p _ _ ht hp (by simp) (by simp)).mono ?_; rintro e w' ⟨rfl, rfl⟩; rw [unhide HE]) | (go_at_call 15; refine (unhide HC _ ?_).mono ?_; exact cell_later ((Below.refl _ _).alloc (Nat.le_refl _) _) hm; rintro e w' ⟨rfl, rfl⟩))
      go_ret2
      exact ⟨rfl, (Below.refl _ _).alloc (Nat.le_refl _) _⟩
end Go.Proofs.YtcphfhkefgaalabDoor
