/- What strings.Clone does: the same bytes. -/
import Derived.Test.YtcphfhkefgaalaaLong
import Derived.Test.YtcphfhkefgaalaaCloneLib
namespace Go.Proofs.Ytcphfhkefgaalaa
open Go.RowKit

set_option maxHeartbeats 400000 in
theorem clone_any (s : ByteArray) (w : World) (hs : s.size ≤ 1000000) : Calls Try.prog 19 #[.string s] w fun e w' => e = .returned (.string s) ∧ Below w.heap.size w w' := by
  go_enter Try.func19, Try.ntmps19
  go_wp2_with (go_at_call 24; refine (Try.stringslite_Clone s _ (by omega)).mono ?_; rintro e w' ⟨rfl, hb⟩)
  go_ret
  exact ⟨rfl, hb⟩
end Go.Proofs.Ytcphfhkefgaalaa
