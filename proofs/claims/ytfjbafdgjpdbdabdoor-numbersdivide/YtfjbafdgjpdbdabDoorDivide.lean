/- What the law NumbersDivide answers, for every three numbers: true. -/
import Derived.Test.YtfjbafdgjpdbdabDoorExponents
namespace Go.Proofs.YtfjbafdgjpdbdabDoor
open Go.RowKit

theorem tmod_gcd (a b : Int) : a.tmod (Nat.gcd a.natAbs b.natAbs : Int) = 0 ∧ b.tmod (Nat.gcd a.natAbs b.natAbs : Int) = 0 := by
  constructor
  · apply Int.tmod_eq_zero_of_dvd
    exact Int.natAbs_dvd_natAbs.1 (by rw [Int.natAbs_natCast]; exact Nat.gcd_dvd_left _ _)
  · apply Int.tmod_eq_zero_of_dvd
    exact Int.natAbs_dvd_natAbs.1 (by rw [Int.natAbs_natCast]; exact Nat.gcd_dvd_right _ _)
theorem gcd_tmod (a b c : Int) (h1 : a.tmod c = 0) (h2 : b.tmod c = 0) : (Nat.gcd a.natAbs b.natAbs : Int).tmod c = 0 := by
  apply Int.tmod_eq_zero_of_dvd
  have d1 : c.natAbs ∣ a.natAbs := Int.natAbs_dvd_natAbs.2 (Int.dvd_of_tmod_eq_zero h1)
  have d2 : c.natAbs ∣ b.natAbs := Int.natAbs_dvd_natAbs.2 (Int.dvd_of_tmod_eq_zero h2)
  exact Int.natAbs_dvd_natAbs.1 (by rw [Int.natAbs_natCast]; exact Nat.dvd_gcd d1 d2)

/-- How the first half ends: nothing is told, both are 0, or the divisor and what c does. -/
theorem gcd_ways (a b c : Int) : ∃ g eg, gcdSaid a b = (g, eg) ∧ ((eg = 3) ∨ (eg = 0 ∧ g = 0 ∧ a = 0 ∧ b = 0) ∨
    (eg = 0 ∧ 0 < g ∧ g ≤ 9223372036854775807 ∧ a.tmod g = 0 ∧ b.tmod g = 0 ∧ (c = 0 ∨ (c ≠ 0 ∧ a.tmod c ≠ 0) ∨ (c ≠ 0 ∧ a.tmod c = 0 ∧ b.tmod c ≠ 0) ∨ (c ≠ 0 ∧ a.tmod c = 0 ∧ b.tmod c = 0 ∧ g.tmod c = 0)))) := by
  unfold gcdSaid
  by_cases h : in64 (Nat.gcd a.natAbs b.natAbs : Int)
  · refine ⟨_, _, within_in _ h, ?_⟩
    by_cases h0 : Nat.gcd a.natAbs b.natAbs = 0
    · have := Nat.gcd_eq_zero_iff.1 h0
      right; left
      refine ⟨rfl, by omega, by omega, by omega⟩
    · right; right
      have hg := tmod_gcd a b
      refine ⟨rfl, by omega, h.2, hg.1, hg.2, ?_⟩
      by_cases c0 : c = 0
      · exact .inl c0
      · by_cases c1 : a.tmod c = 0
        · by_cases c2 : b.tmod c = 0
          · exact .inr (.inr (.inr ⟨c0, c1, c2, gcd_tmod a b c c1 c2⟩))
          · exact .inr (.inr (.inl ⟨c0, c1, c2⟩))
        · exact .inr (.inl ⟨c0, c1⟩)
  · exact ⟨_, _, within_out _ h, .inl rfl⟩

theorem emod_of (a c : Int) (h : a.tmod c = 0) : a % c = 0 := Int.emod_eq_zero_of_dvd (Int.dvd_of_tmod_eq_zero h)
theorem emod_not (a c : Int) (h : a.tmod c ≠ 0) : a % c ≠ 0 := fun e => h (Int.tmod_eq_zero_of_dvd (Int.dvd_of_emod_eq_zero e))

set_option maxHeartbeats 4000000 in
theorem numbersDivide_walk (a b c : Int) (w0 : (Lit.int .i64 a).wf = true) (w1 : (Lit.int .i64 b).wf = true) (w2 : (Lit.int .i64 c).wf = true) (w : World) (ht : TensAt w) :
    Calls Tryd.prog 4 #[.int .i64 a, .int .i64 b, .int .i64 c] w fun e w' => e = .returned (.bool true) ∧ Below w.heap.size w w' := by
  have ha := in64_of w0
  have hb := in64_of w1
  have hc := in64_of w2
  clear w0 w1 w2
  have G := fun w => hide (gcd_any a b w ha hb)
  obtain ⟨g, eg, e1, h1⟩ := gcd_ways a b c
  rw [e1] at G
  clear e1
  have R : (a < 0 ∧ ∀ w, Hid (Calls Tryd.prog 9 #[.int .i64 a] w fun e w' => e = .returned (pairOf (0, 6)) ∧ w' = w)) ∨
      (0 ≤ a ∧ ∀ w, Hid (Calls Tryd.prog 9 #[.int .i64 a] w fun e w' => (∃ r s t : Int, e = .returned (pairOf (r, 0)) ∧ 0 ≤ r ∧ r ≤ 3037000499 ∧ (r = 3037000499 ∧ 9223372030926249001 ≤ a ∨ (r < 3037000499 ∧ r * r = s ∧ wrap64 s = s ∧ s ≤ a ∧ (r + 1) * (r + 1) = t ∧ wrap64 t = t ∧ a < t))) ∧ w' = w)) := by
    by_cases h : a < 0
    · exact .inl ⟨h, fun w => hide (root_below a w h)⟩
    · refine .inr ⟨by omega, fun w => ?_⟩
      obtain ⟨k, rfl⟩ : ∃ k : Nat, a = k := ⟨a.toNat, by omega⟩
      refine hide ((root_any k w (by unfold in64 at ha; omega)).mono ?_)
      rintro e w1 ⟨⟨r, r1, r2, r3, rfl⟩, rfl⟩
      refine ⟨⟨r, ((r * r : Nat) : Int), (((r + 1) * (r + 1) : Nat) : Int), rfl, by omega, by omega, ?_⟩, rfl⟩
      by_cases hm : r = 3037000499
      · subst hm
        exact .inl ⟨rfl, by omega⟩
      · have := Nat.mul_le_mul (show r + 1 ≤ 3037000499 by omega) (show r + 1 ≤ 3037000499 by omega)
        have hk : k ≤ 9223372036854775807 := by unfold in64 at ha; omega
        refine .inr ⟨by omega, by rw [Int.natCast_mul], IntWalk.wrap64_in _ (by omega), by omega, by rw [Int.natCast_mul]; rfl, IntWalk.wrap64_in _ (by omega), by omega⟩
  unfold in64 at ha hb hc
  go_enter Tryd.func4, Tryd.ntmps4
  go_wp2_with fail
  refine (alive_any _ ht).mono ?_
  rintro e w1 ⟨rfl, hbel⟩
  go_wp2_with fail
  refine (unhide (G _)).mono ?_
  rintro e w2 ⟨rfl, hbel2⟩
  have hbe := bnext hbel hbel2
  clear hbel hbel2 G
  rcases h1 with rfl | ⟨rfl, rfl, rfl, rfl⟩ | ⟨rfl, g1, g2, g3, g4, h1⟩
  · rcases R with ⟨hneg, R⟩ | ⟨hneg, R⟩
    · go_wp2_with fail
      refine (unhide (R _)).mono ?_
      rintro e w3 ⟨rfl, rfl⟩
      go_wp2
      go_ret
      exact ⟨rfl, hbe⟩
    · go_wp2_with fail
      refine (unhide (R _)).mono ?_
      rintro e w3 ⟨⟨r, s, t, rfl, r1, r2, ⟨rfl, r4⟩ | ⟨r4, r5, r6, r7, r8, r9, r10⟩⟩, rfl⟩
      · go_wp2
        go_ret
        exact ⟨rfl, hbe⟩
      · go_wp2
        go_ret
        exact ⟨rfl, hbe⟩
  · rcases R with ⟨hneg, R⟩ | ⟨hneg, R⟩
    · omega
    · go_wp2_with fail
      refine (unhide (R _)).mono ?_
      rintro e w3 ⟨⟨r, s, t, rfl, r1, r2, ⟨rfl, r4⟩ | ⟨r4, r5, r6, r7, r8, r9, r10⟩⟩, rfl⟩
      · omega
      · go_wp2
        go_ret
        exact ⟨rfl, hbe⟩
  · have g3' := emod_of _ _ g3
    have g4' := emod_of _ _ g4
    rcases h1 with rfl | ⟨k1, k2⟩ | ⟨k1, k2, k3⟩ | ⟨k1, k2, k3, k4⟩
    all_goals try have k2' := emod_not _ _ k2
    all_goals try have k2' := emod_of _ _ k2
    all_goals try have k3' := emod_not _ _ k3
    all_goals try have k3' := emod_of _ _ k3
    all_goals try have k4' := emod_of _ _ k4
    all_goals
      rcases R with ⟨hneg, R⟩ | ⟨hneg, R⟩
      · go_wp2_with fail
        refine (unhide (R _)).mono ?_
        rintro e w3 ⟨rfl, rfl⟩
        go_wp2
        go_ret
        exact ⟨rfl, hbe⟩
      · go_wp2_with fail
        refine (unhide (R _)).mono ?_
        rintro e w3 ⟨⟨r, s, t, rfl, r1, r2, ⟨rfl, r4⟩ | ⟨r4, r5, r6, r7, r8, r9, r10⟩⟩, rfl⟩
        · go_wp2
          go_ret
          exact ⟨rfl, hbe⟩
        · go_wp2
          go_ret
          exact ⟨rfl, hbe⟩
end Go.Proofs.YtfjbafdgjpdbdabDoor
