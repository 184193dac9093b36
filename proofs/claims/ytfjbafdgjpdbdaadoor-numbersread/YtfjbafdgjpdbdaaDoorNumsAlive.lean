/- What numbers.Print does, for every number, where the table of powers of ten holds what the program's text lays; and the closed fact alive. -/
import Derived.Test.YtfjbafdgjpdbdaaDoorNumsMul
import Derived.Test.YtfjbafdgjpdbdaaDoorItoaLib
import Derived.Lib.LaidTab
import Derived.Stop.LaidErr
import Derived.Lib.AppendIntMem
import Derived.LaidSub
import Derived.OpenShut
namespace Go.Proofs.YtfjbafdgjpdbdaaDoor
open Go.RowKit Go.Sort

/-- The table of powers of ten is as the program's text lays it. -/
abbrev TensAt (w : World) : Prop := Lib.TabIs Tryd.prog w "internal/strconv.uint64pow10" .u64 Lib.pow10Tab
theorem tens_stay {w w' : World} (h : TensAt w) (hb : Below w.heap.size w w') : TensAt w' := Lib.tabBelow_of_tabIs h w' hb
theorem tens_of {w : World} {x y : String × DataW Unit} (h : laidMetH Tryd.prog [x, y, ("internal/strconv.uint64pow10", Rows.laid_internal_strconv_uint64pow10)] w) (hx : x.2.handleName?.isNone = true) (hy : y.2.handleName?.isNone = true) : TensAt w := by
  have h' : laidMet Tryd.prog [x, y, ("internal/strconv.uint64pow10", Rows.laid_internal_strconv_uint64pow10)] w := by
    have hp := h
    unfold laidMetH at hp
    have hz : (Rows.laid_internal_strconv_uint64pow10 (H := Unit)).handleName?.isSome = false := by kernel_rfl
    have e : (List.filter (fun z : String × DataW Unit => z.2.handleName?.isSome) [x, y, ("internal/strconv.uint64pow10", Rows.laid_internal_strconv_uint64pow10)]) = [] := by
      have hx' : x.2.handleName?.isSome = false := by cases h : x.2.handleName? <;> simp_all
      have hy' : y.2.handleName?.isSome = false := by cases h : y.2.handleName? <;> simp_all
      simp [List.filter, hx', hy', hz]
    rw [e] at hp
    exact hp
  exact Lib.tabIs_of_head (g := 0) (t := 102) (e := 54) (n := 20) (by kernel_rfl) (by kernel_rfl) Tryd.underlying102 Tryd.underlying54 (by kernel_rfl) (by kernel_rfl) (rest := []) (show laidMet Tryd.prog [("internal/strconv.uint64pow10", Lib.tabData .u64 Lib.pow10Tab)] w from h'.tail.tail)

/-- A number in digits of ten. -/
def tenText (n : Int) : ByteArray := ⟨(Lib.itoa n).toArray⟩

set_option maxHeartbeats 400000 in
theorem print_any (n : Int) (w : World) (hn : in64 n) (ht : TensAt w) :
    Calls Tryd.prog 11 #[.int .i64 n] w fun e w' => e = .returned (.string (tenText n)) ∧ Below w.heap.size w w' := by
  have C := hide (Tryd.strconv_FormatInt_10 n hn.1 hn.2 w ht)
  go_enter Tryd.func11, Tryd.ntmps11
  go_wp2_with fail
  refine (unhide C).mono ?_
  rintro e w1 ⟨rfl, k, os, rfl⟩
  have hb := Lib.below_grow w.heap.size w (Nat.le_refl _) k os
  generalize grow (w.drewN k) os = w1 at *
  go_wp2
  go_ret
  exact ⟨rfl, hb⟩

theorem tenText_less7 : tenText (-7) = ⟨#[45, 55]⟩ := by
  unfold tenText Lib.itoa
  rw [if_pos (by decide)]
  rw [Lib.decDigits, dif_pos (by decide)]
  rfl

set_option maxHeartbeats 400000 in
theorem alive_any (w : World) (ht : TensAt w) : Calls Tryd.prog 14 #[] w fun e w' => e = .returned (.bool true) ∧ Below w.heap.size w w' := by
  have C1 := hide (add_any 2 3 w (by unfold in64; decide) (by unfold in64; decide))
  have C2 := hide (print_any (-7) w (by unfold in64; decide) ht)
  rw [tenText_less7] at C2
  rw [show within (2 + 3) = (5, 0) from rfl] at C1
  go_enter Tryd.func14, Tryd.ntmps14
  go_wp2_with fail
  refine (unhide C1).mono ?_
  rintro e w ⟨rfl, rfl⟩
  go_wp2_with fail
  refine (unhide C2).mono ?_
  rintro e w1 ⟨rfl, hb⟩
  go_wp2
  go_ret
  exact ⟨rfl, hb⟩
end Go.Proofs.YtfjbafdgjpdbdaaDoor
