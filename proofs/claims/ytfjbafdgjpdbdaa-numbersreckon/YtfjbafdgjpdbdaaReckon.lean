/- What the law NumbersReckon answers, for every two numbers: true. -/
import Derived.Test.YtfjbafdgjpdbdaaRefReckon
import Derived.Test.YtfjbafdgjpdbdaaNumsMul
import Derived.OpenShut
namespace Go.Proofs.Ytfjbafdgjpdbdaa
open Go.RowKit

theorem in64_of {n : Int} (h : (Lit.int .i64 n).wf = true) : in64 n := bounds_i64 h

set_option maxHeartbeats 2000000 in
theorem numbersReckon_walk (a b : Int) (w0 : (Lit.int .i64 a).wf = true) (w1 : (Lit.int .i64 b).wf = true) (w : World) :
    Calls Try.prog 3 #[.int .i64 a, .int .i64 b] w fun e w' => e = .returned (.bool true) ∧ Below w.heap.size w w' := by
  have ha := in64_of w0
  have hb := in64_of w1
  clear w0 w1
  have A1 := fun w => hide (add_any a b w ha hb)
  have A2 := fun w => hide (refAdd_any a b w ha hb)
  have S1 := fun w => hide (sub_any a b w ha hb)
  have S2 := fun w => hide (refSub_any a b w ha hb)
  have M1 := fun w => hide (mul_any a b w ha hb)
  have M2 := fun w => hide (refMul_any a b w ha hb)
  have D : ∃ p : Int × Int, ∀ w, Hid (Calls Try.prog 11 #[.int .i64 a, .int .i64 b] w fun e w' => e = .returned (pairOf p) ∧ w' = w) ∧ Hid (Calls Try.prog 12 #[.int .i64 a, .int .i64 b] w fun e w' => e = .returned (pairOf p) ∧ Below w.heap.size w w') := by
    by_cases h : b = 0
    · subst h
      exact ⟨(0, 6), fun w => ⟨hide (div_any a 0 w ha hb), hide (refDiv_nought a w)⟩⟩
    · refine ⟨within (a.tdiv b), fun w => ⟨?_, hide (refDiv_some a b w ha hb h)⟩⟩
      have := div_any a b w ha hb
      rw [if_neg h] at this
      exact hide this
  have R : ∃ p : Int × Int, ∀ w, Hid (Calls Try.prog 13 #[.int .i64 a, .int .i64 b] w fun e w' => e = .returned (pairOf p) ∧ w' = w) ∧ Hid (Calls Try.prog 14 #[.int .i64 a, .int .i64 b] w fun e w' => e = .returned (pairOf p) ∧ Below w.heap.size w w') := by
    by_cases h : b = 0
    · subst h
      exact ⟨(0, 6), fun w => ⟨hide (rem_any a 0 w ha hb), hide (refRem_nought a w)⟩⟩
    · refine ⟨within (a.tmod b), fun w => ⟨?_, hide (refRem_some a b w ha hb h)⟩⟩
      have := rem_any a b w ha hb
      rw [if_neg h] at this
      have hr : in64 (a.tmod b) := by
        have e2 : (a.tmod b).natAbs < b.natAbs := by rw [Int.natAbs_tmod]; exact Nat.mod_lt _ (by omega)
        unfold in64 at *; omega
      rw [within_in _ hr]
      exact hide this
  obtain ⟨⟨d, ed⟩, D⟩ := D
  obtain ⟨⟨r, er⟩, R⟩ := R
  generalize within (a + b) = p1 at *
  generalize within (a - b) = p2 at *
  generalize within (a * b) = p3 at *
  obtain ⟨s, es⟩ := p1
  obtain ⟨t, et⟩ := p2
  obtain ⟨m, em⟩ := p3
  clear ha hb
  go_enter Try.func3, Try.ntmps3
  go_wp2_with fail
  refine (unhide (A1 _)).mono ?_
  rintro e w1 ⟨rfl, rfl⟩
  go_wp2_with fail
  refine (unhide (A2 _)).mono ?_
  rintro e w2 ⟨rfl, b2⟩
  go_wp2_with fail
  refine (unhide (S1 _)).mono ?_
  rintro e w2 ⟨rfl, rfl⟩
  go_wp2_with fail
  refine (unhide (S2 _)).mono ?_
  rintro e w3 ⟨rfl, b3⟩
  go_wp2_with fail
  refine (unhide (M1 _)).mono ?_
  rintro e w3 ⟨rfl, rfl⟩
  go_wp2_with fail
  refine (unhide (M2 _)).mono ?_
  rintro e w4 ⟨rfl, b4⟩
  go_wp2_with fail
  refine (unhide (D _).1).mono ?_
  rintro e w4 ⟨rfl, rfl⟩
  go_wp2_with fail
  refine (unhide (D _).2).mono ?_
  rintro e w5 ⟨rfl, b5⟩
  go_wp2_with fail
  refine (unhide (R _).1).mono ?_
  rintro e w5 ⟨rfl, rfl⟩
  go_wp2_with fail
  refine (unhide (R _).2).mono ?_
  rintro e w6 ⟨rfl, b6⟩
  go_wp2
  go_ret
  exact ⟨rfl, bnext (bnext (bnext (bnext b2 b3) b4) b5) b6⟩
end Go.Proofs.Ytfjbafdgjpdbdaa
