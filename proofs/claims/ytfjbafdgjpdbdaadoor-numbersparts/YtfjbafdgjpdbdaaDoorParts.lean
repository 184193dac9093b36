/- What the law NumbersParts answers, for every two numbers: true. -/
import Derived.Test.YtfjbafdgjpdbdaaDoorRing
namespace Go.Proofs.YtfjbafdgjpdbdaaDoor
open Go.RowKit

theorem parts_facts {a b : Int} (ha : in64 a) (hb : in64 b) (h0 : b ≠ 0) :
    (0 < a.tmod b → 0 < a) ∧ (a.tmod b < 0 → a < 0) ∧ (a.tmod b).natAbs < b.natAbs ∧ a.tdiv b * b + a.tmod b = a ∧ in64 (a.tdiv b * b) ∧ (¬ in64 (a.tdiv b) → b = -1) := by
  have e1 : a.tdiv b * b + a.tmod b = a := by rw [Int.mul_comm]; exact Int.mul_tdiv_add_tmod a b
  have e2 : (a.tmod b).natAbs < b.natAbs := by
    rw [Int.natAbs_tmod]; exact Nat.mod_lt _ (by omega)
  have s1 : 0 ≤ a → 0 ≤ a.tmod b := fun h => Int.tmod_nonneg b h
  have s2 : a ≤ 0 → a.tmod b ≤ 0 := fun h => by
    have := Int.tmod_nonneg b (show 0 ≤ -a by omega)
    rw [Int.neg_tmod] at this; omega
  have e3 : (a.tmod b).natAbs ≤ a.natAbs := by rw [Int.natAbs_tmod]; exact Nat.mod_le _ _
  refine ⟨by omega, by omega, e2, e1, ?_, ?_⟩
  · unfold in64 at *
    generalize a.tdiv b * b = p at *
    omega
  · intro h
    by_cases hx : a = -9223372036854775808 ∧ b = -1
    · exact hx.2
    · exact absurd (tdiv_in ha hb h0 hx) h

set_option maxHeartbeats 2000000 in
theorem numbersParts_walk (a b : Int) (w0 : (Lit.int .i64 a).wf = true) (w1 : (Lit.int .i64 b).wf = true) (w : World) (ht : TensAt w) :
    Calls Tryd.prog 6 #[.int .i64 a, .int .i64 b] w fun e w' => e = .returned (.bool true) ∧ Below w.heap.size w w' := by
  have ha := in64_of w0
  have hb := in64_of w1
  clear w0 w1
  have D := fun w => hide (div_any a b w ha hb)
  have R := fun w => hide (rem_any a b w ha hb)
  by_cases h0 : b = 0
  · subst h0
    simp only [if_true] at D R
    go_enter Tryd.func6, Tryd.ntmps6
    go_wp2_with fail
    refine (alive_any _ ht).mono ?_
    rintro e w1 ⟨rfl, hbel⟩
    go_wp2_with fail
    refine (unhide (D _)).mono ?_
    rintro e w1 ⟨rfl, rfl⟩
    go_wp2_with fail
    refine (unhide (R _)).mono ?_
    rintro e w1 ⟨rfl, rfl⟩
    go_wp2
    go_ret
    exact ⟨rfl, hbel⟩
  · simp only [if_neg h0] at D R
    obtain ⟨f1, f2, f3, f4, f5, f6⟩ := parts_facts ha hb h0
    obtain ⟨q, eq, e1, h1⟩ := within_cases (a.tdiv b)
    rw [e1] at D
    have M : eq = 0 → ∀ w, Hid (Calls Tryd.prog 17 #[.int .i64 q, .int .i64 b] w fun e w' => e = .returned (pairOf (a.tdiv b * b, 0)) ∧ w' = w) := by
      intro h w
      rcases h1 with ⟨_, hq, hqi⟩ | ⟨h', _⟩
      · have := mul_any q b w hqi hb
        rw [hq, within_in _ f5] at this
        rw [hq]; exact hide this
      · omega
    have hr : in64 (a.tmod b) := by unfold in64 at *; omega
    have P := fun w => hide (add_any (a.tdiv b * b) (a.tmod b) w f5 hr)
    rw [f4, within_in a ha] at P
    have hout : eq = 3 → b = -1 := by
      intro h
      refine f6 fun hh => ?_
      rw [within_in _ hh] at e1
      simp at e1; omega
    have h1' : eq = 0 ∨ eq = 3 := by omega
    clear f4 f5 f6 h1 e1
    generalize a.tdiv b * b = p at *
    generalize a.tmod b = r at *
    unfold in64 at ha hb hr
    have hs : (0 < b ∧ 0 < r) ∨ (0 < b ∧ r = 0) ∨ (0 < b ∧ r < 0) ∨ (b < 0 ∧ 0 < r) ∨ (b < 0 ∧ r = 0) ∨ (b < 0 ∧ r < 0) := by omega
    go_enter Tryd.func6, Tryd.ntmps6
    go_wp2_with fail
    refine (alive_any _ ht).mono ?_
    rintro e w1 ⟨rfl, hbel⟩
    go_wp2_with fail
    refine (unhide (D _)).mono ?_
    rintro e w1 ⟨rfl, rfl⟩
    go_wp2_with fail
    refine (unhide (R _)).mono ?_
    rintro e w1 ⟨rfl, rfl⟩
    rcases h1' with rfl | rfl
    · have M2 := M rfl
      clear M hout
      rcases hs with ⟨k1, k2⟩ | ⟨k1, rfl⟩ | ⟨k1, k2⟩ | ⟨k1, k2⟩ | ⟨k1, rfl⟩ | ⟨k1, k2⟩
      all_goals try have k3 := f1 k2
      all_goals try have k3 := f2 k2
      all_goals clear f1 f2
      all_goals
        go_wp2_with fail
        refine (unhide (M2 _)).mono ?_
        rintro e w1 ⟨rfl, rfl⟩
        go_wp2_with fail
        refine (unhide (P _)).mono ?_
        rintro e w1 ⟨rfl, rfl⟩
        go_wp2
        go_ret
        exact ⟨rfl, hbel⟩
    · obtain rfl := hout rfl
      obtain rfl : r = 0 := by omega
      clear M hout hs f1 f2
      go_wp2
      go_ret
      exact ⟨rfl, hbel⟩
end Go.Proofs.YtfjbafdgjpdbdaaDoor
