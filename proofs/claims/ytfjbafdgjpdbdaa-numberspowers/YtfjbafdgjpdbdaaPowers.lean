/- What the law NumbersPowers answers, for every two numbers: true. -/
import Derived.Test.YtfjbafdgjpdbdaaRefPowers
import Derived.OpenShut
namespace Go.Proofs.Ytfjbafdgjpdbdaa
open Go.RowKit

theorem in64_at {n : Int} (h : (Lit.int .i64 n).wf = true) : in64 n := bounds_i64 h

theorem root_is (a : Nat) : ∃ r, r * r ≤ a ∧ a < (r + 1) * (r + 1) := by
  induction a with
  | zero => exact ⟨0, by omega, by omega⟩
  | succ a ih =>
    obtain ⟨r, h1, h2⟩ := ih
    by_cases h : a + 1 < (r + 1) * (r + 1)
    · exact ⟨r, by omega, h⟩
    · refine ⟨r + 1, by omega, ?_⟩
      have : (r + 1) * (r + 1) < (r + 1 + 1) * (r + 1 + 1) := Nat.mul_lt_mul'' (by omega) (by omega)
      omega

set_option maxHeartbeats 2000000 in
theorem numbersPowers_walk (a b : Int) (w0 : (Lit.int .i64 a).wf = true) (w1 : (Lit.int .i64 b).wf = true) (w : World) :
    Calls Try.prog 4 #[.int .i64 a, .int .i64 b] w fun e w' => e = .returned (.bool true) ∧ Below w.heap.size w w' := by
  have ha := in64_at w0
  have hb := in64_at w1
  clear w0 w1
  have P1 := fun w => hide (power_any a b w ha hb)
  have P2 := fun w => hide (refPower_any a b w ha hb)
  have G1 := fun w => hide (gcd_any a b w ha hb)
  have G2 := fun w => hide (refGcd_any a b w ha hb)
  have R : ∃ p : Int × Int, ∀ w, Hid (Calls Try.prog 19 #[.int .i64 a] w fun e w' => e = .returned (pairOf p) ∧ w' = w) ∧ Hid (Calls Try.prog 20 #[.int .i64 a] w fun e w' => e = .returned (pairOf p) ∧ Below w.heap.size w w') := by
    by_cases h : a < 0
    · exact ⟨(0, 6), fun w => ⟨hide (root_below a w h), hide (refRoot_below a w h)⟩⟩
    · obtain ⟨k, rfl⟩ : ∃ k : Nat, a = k := ⟨a.toNat, by omega⟩
      have hk : k ≤ 9223372036854775807 := by unfold in64 at ha; omega
      obtain ⟨r, hr1, hr2⟩ := root_is k
      refine ⟨(r, 0), fun w => ⟨hide ((root_any k w hk).mono ?_), hide ((refRoot_any k w hk).mono ?_)⟩⟩
      · rintro e w' ⟨⟨s, _, h1, h2, rfl⟩, rfl⟩
        rw [root_one h1 h2 hr1 hr2]
        exact ⟨rfl, rfl⟩
      · rintro e w' ⟨⟨s, h1, h2, rfl⟩, hb'⟩
        rw [root_one h1 h2 hr1 hr2]
        exact ⟨rfl, hb'⟩
  obtain ⟨⟨r, er⟩, R⟩ := R
  generalize powSaid a b = p1 at *
  generalize gcdSaid a b = p2 at *
  obtain ⟨s, es⟩ := p1
  obtain ⟨t, et⟩ := p2
  clear ha hb
  go_enter Try.func4, Try.ntmps4
  go_wp2_with fail
  refine (unhide (P1 _)).mono ?_
  rintro e w1 ⟨rfl, rfl⟩
  go_wp2_with fail
  refine (unhide (P2 _)).mono ?_
  rintro e w2 ⟨rfl, b2⟩
  go_wp2_with fail
  refine (unhide (G1 _)).mono ?_
  rintro e w3 ⟨rfl, b3⟩
  go_wp2_with fail
  refine (unhide (G2 _)).mono ?_
  rintro e w4 ⟨rfl, b4⟩
  go_wp2_with fail
  refine (unhide (R _).1).mono ?_
  rintro e w4 ⟨rfl, rfl⟩
  go_wp2_with fail
  refine (unhide (R _).2).mono ?_
  rintro e w5 ⟨rfl, b5⟩
  go_wp2
  go_ret
  exact ⟨rfl, bnext (bnext (bnext b2 b3) b4) b5⟩
end Go.Proofs.Ytfjbafdgjpdbdaa
