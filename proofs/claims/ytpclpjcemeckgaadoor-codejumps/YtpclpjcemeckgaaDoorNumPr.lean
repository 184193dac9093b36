/- What numbers.Print does, for every number, where the table of powers of ten holds what the program's text lays. -/
import Derived.Test.YtpclpjcemeckgaaDoorPatBase
import Derived.Test.YtpclpjcemeckgaaDoorItoaLib
import Derived.Lib.LaidTab
import Derived.Lib.AppendIntMem
namespace Go.Proofs.YtpclpjcemeckgaaDoor
open Go.RowKit Go.Sort

/-- The table of powers of ten is as the program's text lays it. -/
abbrev TensAt (w : World) : Prop := Lib.TabIs Tryd.prog w "internal/strconv.uint64pow10" .u64 Lib.pow10Tab
theorem tens_stay {w w' : World} (h : TensAt w) (hb : Below w.heap.size w w') : TensAt w' := Lib.tabBelow_of_tabIs h w' hb
/-- A number in digits of ten. -/
def tenText (n : Int) : ByteArray := ⟨(Lib.itoa n).toArray⟩

set_option maxHeartbeats 400000 in
theorem print_any (n : Int) (w : World) (hn : -9223372036854775808 ≤ n ∧ n ≤ 9223372036854775807) (ht : TensAt w) :
    Calls Tryd.prog 44 #[.int .i64 n] w fun e w' => e = .returned (.string (tenText n)) ∧ Below w.heap.size w w' := by
  have C := hide (Tryd.strconv_FormatInt_10 n hn.1 hn.2 w ht)
  go_enter Tryd.func44, Tryd.ntmps44
  go_wp2_with fail
  refine (unhide C).mono ?_
  rintro e w1 ⟨rfl, k, os, rfl⟩
  have hb := Lib.below_grow w.heap.size w (Nat.le_refl _) k os
  generalize grow (w.drewN k) os = w1 at *
  go_wp2
  go_ret
  exact ⟨rfl, hb⟩
end Go.Proofs.YtpclpjcemeckgaaDoor
