/- What the closed fact alive answers: true. -/
import Derived.Test.YtcphfhkefgaalaaReverse
namespace Go.Proofs.Ytcphfhkefgaalaa
open Go.RowKit

theorem lit_rev : rev ⟨#[97, 98, 99]⟩ = ⟨#[99, 98, 97]⟩ := by simp [rev]

set_option maxHeartbeats 400000 in
theorem alive_any (w : World) : Calls Try.prog 16 #[] w fun e w' => e = .returned (.bool true) ∧ Below w.heap.size w w' := by
  go_enter Try.func16, Try.ntmps16
  go_wp2_with (go_at_call 17; refine (reverse_ok _ _ (by decide)).mono ?_; rintro e w' ⟨rfl, hb⟩; rw [lit_rev])
  go_ret
  exact ⟨rfl, hb⟩

end Go.Proofs.Ytcphfhkefgaalaa
