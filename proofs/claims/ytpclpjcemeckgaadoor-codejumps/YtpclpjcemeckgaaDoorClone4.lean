/- What strings.Clone does: the same bytes. -/
import Derived.Test.YtpclpjcemeckgaaDoorPatBase
import Derived.Test.YtpclpjcemeckgaaDoorCloneLib
namespace Go.Proofs.YtpclpjcemeckgaaDoor
open Go.RowKit

set_option maxHeartbeats 400000 in
theorem clone_any (s : ByteArray) (w : World) (hs : s.size ≤ 1000000) : Calls Tryd.prog 43 #[.string s] w fun e w' => e = .returned (.string s) ∧ Below w.heap.size w w' := by
  go_enter Tryd.func43, Tryd.ntmps43
  go_wp2_with (go_at_call 54; refine (Tryd.stringslite_Clone s _ (by omega)).mono ?_; rintro e w' ⟨rfl, hb⟩)
  go_ret
  exact ⟨rfl, hb⟩
end Go.Proofs.YtpclpjcemeckgaaDoor
