/- What the law NumbersExponents answers, for every three numbers: true. -/
import Derived.Test.YtfjbafdgjpdbdabDoorNumsAlive
import Derived.Test.YtfjbafdgjpdbdabDoorNumsPow
namespace Go.Proofs.YtfjbafdgjpdbdabDoor
open Go.RowKit

theorem in64_of {n : Int} (h : (Lit.int .i64 n).wf = true) : in64 n := bounds_i64 h
theorem within_cases (n : Int) : ∃ v e, within n = (v, e) ∧ ((e = 0 ∧ v = n ∧ in64 v) ∨ (e = 3 ∧ v = 0)) := by
  by_cases h : in64 n
  · exact ⟨n, 0, within_in n h, .inl ⟨rfl, rfl, h⟩⟩
  · exact ⟨0, 3, within_out n h, .inr ⟨rfl, rfl⟩⟩

set_option maxHeartbeats 1000000 in
theorem numbersExponents_walk (a n m : Int) (w0 : (Lit.int .i64 a).wf = true) (w1 : (Lit.int .i64 n).wf = true) (w2 : (Lit.int .i64 m).wf = true) (w : World) (ht : TensAt w) :
    Calls Tryd.prog 3 #[.int .i64 a, .int .i64 n, .int .i64 m] w fun e w' => e = .returned (.bool true) ∧ Below w.heap.size w w' := by
  have ha := in64_of w0
  have hn := in64_of w1
  have hm := in64_of w2
  clear w0 w1 w2
  by_cases hr : n < 0 ∨ (0 ≤ n ∧ m < 0) ∨ (0 ≤ n ∧ 0 ≤ m ∧ 1099511627776 < n) ∨ (0 ≤ n ∧ 0 ≤ m ∧ n ≤ 1099511627776 ∧ 1099511627776 < m)
  · rcases hr with h | ⟨h, h'⟩ | ⟨h, h', h''⟩ | ⟨h, h', h'', h3⟩
    all_goals
      go_enter Tryd.func3, Tryd.ntmps3
      go_wp2_with fail
      refine (alive_any _ ht).mono ?_
      rintro e w1 ⟨rfl, hbel⟩
      go_wp2
      go_ret
      exact ⟨rfl, hbel⟩
  · have h : 0 ≤ n ∧ 0 ≤ m ∧ n ≤ 1099511627776 ∧ m ≤ 1099511627776 := by omega
    obtain ⟨g1, g2, g3, g4⟩ := h
    clear hr
    have P1 := fun w => hide (power_any a n w ha hn)
    have P2 := fun w => hide (power_any a m w ha hm)
    have P3 := fun w => hide (power_any a (n + m) w ha (by unfold in64; omega))
    unfold powSaid at P1 P2 P3
    rw [if_neg (by omega)] at P1 P2 P3
    rw [show (n + m).toNat = n.toNat + m.toNat by omega, Int.pow_add] at P3
    obtain ⟨x, ex, e1, h1⟩ := within_cases (a ^ n.toNat)
    obtain ⟨y, ey, e2, h2⟩ := within_cases (a ^ m.toNat)
    rw [e1] at P1
    rw [e2] at P2
    have M : ex = 0 → ey = 0 → ∃ z ez, ∀ w, Hid (Calls Tryd.prog 7 #[.int .i64 x, .int .i64 y] w fun e w' => e = .returned (pairOf (z, ez)) ∧ w' = w) ∧ Hid (Calls Tryd.prog 6 #[.int .i64 a, .int .i64 (n + m)] w fun e w' => e = .returned (pairOf (z, ez)) ∧ w' = w) := by
      intro hx hy
      rcases h1 with ⟨_, hv, hi⟩ | ⟨h', _⟩
      · rcases h2 with ⟨_, hv2, hi2⟩ | ⟨h', _⟩
        · refine ⟨(within (x * y)).1, (within (x * y)).2, fun w => ⟨hide (mul_any x y w hi hi2), ?_⟩⟩
          have := P3 w
          rw [← hv, ← hv2] at this
          exact this
        · omega
      · omega
    have h1' : ex = 0 ∨ ex = 3 := by omega
    have h2' : ey = 0 ∨ ey = 3 := by omega
    clear h1 h2 e1 e2 P3
    go_enter Tryd.func3, Tryd.ntmps3
    go_wp2_with fail
    refine (alive_any _ ht).mono ?_
    rintro e w1 ⟨rfl, hbel⟩
    go_wp2_with fail
    refine (unhide (P1 _)).mono ?_
    rintro e w1 ⟨rfl, rfl⟩
    go_wp2_with fail
    refine (unhide (P2 _)).mono ?_
    rintro e w1 ⟨rfl, rfl⟩
    rcases h1' with rfl | rfl
    · rcases h2' with rfl | rfl
      · obtain ⟨z, ez, M2⟩ := M rfl rfl
        clear M
        go_wp2_with fail
        refine (unhide (M2 _).2).mono ?_
        rintro e w1 ⟨rfl, rfl⟩
        go_wp2_with fail
        refine (unhide (M2 _).1).mono ?_
        rintro e w1 ⟨rfl, rfl⟩
        go_wp2
        go_ret
        exact ⟨rfl, hbel⟩
      · go_wp2
        go_ret
        exact ⟨rfl, hbel⟩
    · go_wp2
      go_ret
      exact ⟨rfl, hbel⟩
end Go.Proofs.YtfjbafdgjpdbdabDoor
