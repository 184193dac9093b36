/- What strings.HasPrefix answers for the sign that stands ahead of all others. -/
import Derived.Test.YtgamnhmkimonnaaReadByte
namespace Go.Proofs.Ytgamnhmkimonnaa
open Go.RowKit

theorem first_is (t : ByteArray) (h : 0 < t.size) : ((t.extract 0 1).toList == [94]) = decide (ch t 0 = 94) := by
  have e : (t.extract 0 1).toList = [t.data.toList.getD 0 0] := by
    rw [ByteArray.toList_eq, ByteArray.data_extract, Array.toList_extract]
    have hl : 0 < t.data.toList.length := by simpa using h
    cases hq : t.data.toList with
    | nil => rw [hq] at hl; simp at hl
    | cons a r => simp
  rw [e]
  unfold ch
  generalize t.data.toList.getD 0 0 = x
  by_cases hx : x = 94
  · subst hx; rfl
  · have h1 : ([x] == [94]) = false := by rw [beq_eq_false_iff_ne]; intro k; injection k with k; exact hx k
    have h2 : ¬ x.toNat = 94 := fun k => hx (UInt8.toNat_inj.1 k)
    rw [h1, decide_eq_false h2]

set_option maxHeartbeats 400000 in
theorem prefix_lite (t : ByteArray) (w : World) (ht : t.size ≤ 65536) :
    Calls Try.prog 42 #[.string t, .string ⟨#[94]⟩] w fun e w' => e = .returned (.bool (decide (ch t 0 = 94))) ∧ w' = w := by
  by_cases h0 : t.size = 0
  · rw [ch_end t 0 (by omega), show decide (0 = 94) = false from rfl]
    have h1 : (t.size : Int) < 1 := by omega
    go_enter Try.func42, Try.ntmps42
    go_wp2
    go_ret
    exact ⟨rfl, rfl⟩
  · have h1 : (1 : Int) ≤ (t.size : Int) := by omega
    go_enter Try.func42, Try.ntmps42
    go_wp2
    go_ret
    exact ⟨ret_bool (first_is t (by omega)), rfl⟩

set_option maxHeartbeats 400000 in
theorem prefix_any (t : ByteArray) (w : World) (ht : t.size ≤ 65536) :
    Calls Try.prog 37 #[.string t, .string ⟨#[94]⟩] w fun e w' => e = .returned (.bool (decide (ch t 0 = 94))) ∧ w' = w := by
  have C := hide (prefix_lite t w ht)
  go_enter Try.func37, Try.ntmps37
  go_wp2_with fail
  refine (unhide C).mono ?_
  rintro e w ⟨rfl, rfl⟩
  go_wp2
  go_ret
  exact ⟨rfl, rfl⟩
end Go.Proofs.Ytgamnhmkimonnaa
