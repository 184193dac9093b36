/- What the closed fact alive answers: true. -/
import Derived.Test.YtcphfhkefgaalabDoorReverse
namespace Go.Proofs.YtcphfhkefgaalabDoor
open Go.RowKit

theorem lit_rev : rev ⟨#[97, 98, 99]⟩ = ⟨#[99, 98, 97]⟩ := by simp [rev]

set_option maxHeartbeats 400000 in
theorem alive_any (w : World) : Calls Tryd.prog 4 #[] w fun e w' => e = .returned (.bool true) ∧ Below w.heap.size w w' := by
  go_enter Tryd.func4, Tryd.ntmps4
  go_wp2_with (go_at_call 9; refine (reverse_ok _ _ (by decide)).mono ?_; rintro e w' ⟨rfl, hb⟩; rw [lit_rev])
  go_ret
  exact ⟨rfl, hb⟩

end Go.Proofs.YtcphfhkefgaalabDoor
