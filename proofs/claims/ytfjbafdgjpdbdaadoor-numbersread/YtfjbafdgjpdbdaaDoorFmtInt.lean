/- What strconv.FormatInt and numbers.Base do, for every number and base. -/
import Derived.Test.YtfjbafdgjpdbdaaDoorFmt
import Derived.Test.YtfjbafdgjpdbdaaDoorNumsRead
namespace Go.Proofs.YtfjbafdgjpdbdaaDoor
open Go.RowKit Go.Sort

/-- Both tables are as the program's text lays them. -/
def TabsAt (w : World) : Prop := TensAt w ∧ DeBruijnAt w
theorem tabs_stay {w w' : World} (h : TabsAt w) (hb : Below w.heap.size w w') : TabsAt w' := ⟨tens_stay h.1 hb, debruijn_stay h.2 hb⟩

theorem formatBits_any (n : Int) (base : Nat) (w : World) (hn : in64 n) (hb : 2 ≤ base) (h36 : base ≤ 36) (h10 : base ≠ 10) (ht : DeBruijnAt w) :
    Calls Tryd.prog 65 #[.slice none 0 0, .int .u64 (IntKind.u64.wrap n), .int .i64 base, .bool (decide (n < 0)), .bool false] w fun e w' => e = .returned (.tuple #[.slice none 0 0, .string ⟨(baseText base n).toArray⟩]) ∧ Below w.heap.size w w' := by
  have hu : n.natAbs < 18446744073709551616 := by unfold in64 at hn; omega
  by_cases h0 : n < 0
  · rw [decide_eq_true h0, show baseText base n = 45 :: inBase base n.natAbs by unfold baseText; rw [if_pos h0]]
    have hy := u64_negs n h0 hn.1
    by_cases hp : base = 2 ∨ base = 4 ∨ base = 8 ∨ base = 16 ∨ base = 32
    · rcases hp with h | h | h | h | h
      · exact formatBits_powNeg n.natAbs base _ w hy hb h36 h10 hu 1 (by omega) (by omega) (by omega) ht
      · exact formatBits_powNeg n.natAbs base _ w hy hb h36 h10 hu 2 (by omega) (by omega) (by omega) ht
      · exact formatBits_powNeg n.natAbs base _ w hy hb h36 h10 hu 3 (by omega) (by omega) (by omega) ht
      · exact formatBits_powNeg n.natAbs base _ w hy hb h36 h10 hu 4 (by omega) (by omega) (by omega) ht
      · exact formatBits_powNeg n.natAbs base _ w hy hb h36 h10 hu 5 (by omega) (by omega) (by omega) ht
    · exact formatBits_genNeg n.natAbs base _ w hy hb h36 h10 hu hp
  · rw [decide_eq_false h0, show baseText base n = inBase base n.natAbs by unfold baseText; rw [if_neg h0]]
    have hy : IntKind.u64.wrap n = (n.natAbs : Int) := by
      unfold in64 at hn
      rw [IntWalk.u64_in n (by omega)]; omega
    rw [hy]
    by_cases hp : base = 2 ∨ base = 4 ∨ base = 8 ∨ base = 16 ∨ base = 32
    · rcases hp with h | h | h | h | h
      · exact formatBits_pow n.natAbs base w hb h36 h10 hu 1 (by omega) (by omega) (by omega) ht
      · exact formatBits_pow n.natAbs base w hb h36 h10 hu 2 (by omega) (by omega) (by omega) ht
      · exact formatBits_pow n.natAbs base w hb h36 h10 hu 3 (by omega) (by omega) (by omega) ht
      · exact formatBits_pow n.natAbs base w hb h36 h10 hu 4 (by omega) (by omega) (by omega) ht
      · exact formatBits_pow n.natAbs base w hb h36 h10 hu 5 (by omega) (by omega) (by omega) ht
    · exact formatBits_gen n.natAbs base w hb h36 h10 hu hp

set_option maxHeartbeats 1000000 in
theorem formatIn_any (n : Int) (base : Nat) (w : World) (hn : in64 n) (hb : 2 ≤ base) (h36 : base ≤ 36) (h10 : base ≠ 10) (ht : DeBruijnAt w) :
    Calls Tryd.prog 49 #[.int .i64 n, .int .i64 base] w fun e w' => e = .returned (.string ⟨(baseText base n).toArray⟩) ∧ Below w.heap.size w w' := by
  have C := hide (formatBits_any n base w hn hb h36 h10 ht)
  generalize (⟨(baseText base n).toArray⟩ : ByteArray) = s at *
  have d1 : ((base : Int) == 10) = false := by simp; omega
  obtain ⟨y, hy⟩ : ∃ y, y = IntKind.u64.wrap n := ⟨_, rfl⟩
  have hy2 : IntKind.u64.wrap n = y := hy.symm
  rw [hy2] at C
  clear hy
  have hn1 := hn.1
  have hn2 := hn.2
  by_cases h0 : n < 0
  · rw [decide_eq_true h0] at C
    go_enter Tryd.func49, Tryd.ntmps49
    go_wp2_with fail
    refine (unhide C).mono ?_
    rintro e w1 ⟨rfl, hb1⟩
    go_wp2
    go_ret
    exact ⟨rfl, hb1⟩
  · rw [decide_eq_false h0] at C
    have hyn : y = n := by rw [← hy2]; exact IntWalk.u64_in n (by omega)
    rw [hyn] at C
    clear hy2 hyn
    go_enter Tryd.func49, Tryd.ntmps49
    go_wp2_with fail
    refine (unhide C).mono ?_
    rintro e w1 ⟨rfl, hb1⟩
    go_wp2
    go_ret
    exact ⟨rfl, hb1⟩

set_option maxHeartbeats 400000 in
theorem format_any (n : Int) (base : Nat) (w : World) (hn : in64 n) (hb : 2 ≤ base) (h36 : base ≤ 36) (ht : TabsAt w) :
    Calls Tryd.prog 26 #[.int .i64 n, .int .i64 base] w fun e w' => e = .returned (.string ⟨(baseText base n).toArray⟩) ∧ Below w.heap.size w w' := by
  by_cases h10 : base = 10
  · subst h10
    refine (Tryd.strconv_FormatInt_10 n hn.1 hn.2 w ht.1).mono ?_
    rintro e w1 ⟨rfl, k, os, rfl⟩
    rw [itoa_is n hn]
    exact ⟨rfl, Lib.below_grow w.heap.size w (Nat.le_refl _) k os⟩
  · have C := hide (formatIn_any n base w hn hb h36 h10 ht.2)
    generalize (⟨(baseText base n).toArray⟩ : ByteArray) = s at *
    go_enter Tryd.func26, Tryd.ntmps26
    go_wp2_with fail
    refine (unhide C).mono ?_
    rintro e w1 ⟨rfl, hb1⟩
    go_wp2
    go_ret
    exact ⟨rfl, hb1⟩

set_option maxHeartbeats 400000 in
theorem base_no (n b : Int) (w : World) (h : b < 2 ∨ 36 < b) :
    Calls Tryd.prog 9 #[.int .i64 n, .int .i64 b] w fun e w' => e = .returned (.tuple #[.string ⟨#[]⟩, .int .i64 3]) ∧ w' = w := by
  have C := hide (isBase_no b w h)
  clear h
  go_enter Tryd.func9, Tryd.ntmps9
  go_wp2_with fail
  refine (unhide C).mono ?_
  rintro e w ⟨rfl, rfl⟩
  go_wp2
  go_ret2
  exact ⟨rfl, rfl⟩
set_option maxHeartbeats 400000 in
theorem base_ok (n : Int) (base : Nat) (w : World) (hn : in64 n) (hb : 2 ≤ base) (h36 : base ≤ 36) (ht : TabsAt w) :
    Calls Tryd.prog 9 #[.int .i64 n, .int .i64 base] w fun e w' => e = .returned (.tuple #[.string ⟨(baseText base n).toArray⟩, .int .i64 0]) ∧ Below w.heap.size w w' := by
  have C1 := hide (isBase_yes (base : Int) w (by omega) (by omega))
  have C2 := hide (format_any n base w hn hb h36 ht)
  generalize (⟨(baseText base n).toArray⟩ : ByteArray) = s at *
  clear ht
  go_enter Tryd.func9, Tryd.ntmps9
  go_wp2_with fail
  refine (unhide C1).mono ?_
  rintro e w ⟨rfl, rfl⟩
  go_wp2_with fail
  refine (unhide C2).mono ?_
  rintro e w1 ⟨rfl, hb1⟩
  go_wp2
  go_ret2
  exact ⟨rfl, hb1⟩
end Go.Proofs.YtfjbafdgjpdbdaaDoor
