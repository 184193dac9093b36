/- What the law NumbersRing answers, for every three numbers: true. -/
import Derived.Test.YtfjbafdgjpdbdaaDoorNumsAlive
namespace Go.Proofs.YtfjbafdgjpdbdaaDoor
open Go.RowKit

theorem in64_of {n : Int} (h : (Lit.int .i64 n).wf = true) : in64 n := bounds_i64 h
theorem within_cases (n : Int) : ∃ v e, within n = (v, e) ∧ ((e = 0 ∧ v = n ∧ in64 v) ∨ (e = 3 ∧ v = 0)) := by
  by_cases h : in64 n
  · exact ⟨n, 0, within_in n h, .inl ⟨rfl, rfl, h⟩⟩
  · exact ⟨0, 3, within_out n h, .inr ⟨rfl, rfl⟩⟩

set_option maxHeartbeats 1000000 in
theorem numbersRing_walk (a b c : Int) (w0 : (Lit.int .i64 a).wf = true) (w1 : (Lit.int .i64 b).wf = true) (w2 : (Lit.int .i64 c).wf = true) (w : World) (ht : TensAt w) :
    Calls Tryd.prog 5 #[.int .i64 a, .int .i64 b, .int .i64 c] w fun e w' => e = .returned (.bool true) ∧ Below w.heap.size w w' := by
  have ha := in64_of w0
  have hb := in64_of w1
  have hc := in64_of w2
  clear w0 w1 w2
  have A1 := fun w => hide (add_any a b w ha hb)
  have A2 := fun w => hide (add_any b a w hb ha)
  rw [Int.add_comm b a] at A2
  have M1 := fun w => hide (mul_any a b w ha hb)
  have M2 := fun w => hide (mul_any b a w hb ha)
  rw [Int.mul_comm b a] at M2
  have M3 := fun w => hide (mul_any a c w ha hc)
  have A4 := fun w => hide (add_any b c w hb hc)
  obtain ⟨s, es, e1, h1⟩ := within_cases (a + b)
  obtain ⟨p, ep, e2, h2⟩ := within_cases (a * b)
  obtain ⟨r, er, e3, h3⟩ := within_cases (a * c)
  obtain ⟨t, et, e4, h4⟩ := within_cases (b + c)
  rw [e1] at A1 A2
  rw [e2] at M1 M2
  rw [e3] at M3
  rw [e4] at A4
  have S1 : es = 0 → ∀ w, Hid (Calls Tryd.prog 16 #[.int .i64 s, .int .i64 b] w fun e w' => e = .returned (pairOf (a, 0)) ∧ w' = w) := by
    intro h w
    rcases h1 with ⟨_, hs, h64⟩ | ⟨h', _⟩
    · have := sub_any s b w h64 hb
      rw [hs, show a + b - b = a by omega, within_in a ha] at this
      rw [hs]; exact hide this
    · omega
  have L1 : ep = 0 → er = 0 → et = 0 → ∃ u eu, ∀ w, Hid (Calls Tryd.prog 17 #[.int .i64 a, .int .i64 t] w fun e w' => e = .returned (pairOf (u, eu)) ∧ w' = w) ∧ Hid (Calls Tryd.prog 15 #[.int .i64 p, .int .i64 r] w fun e w' => e = .returned (pairOf (u, eu)) ∧ w' = w) := by
    intro hp hr ht
    rcases h2 with ⟨_, hpv, hpi⟩ | ⟨h', _⟩
    · rcases h3 with ⟨_, hrv, hri⟩ | ⟨h', _⟩
      · rcases h4 with ⟨_, htv, hti⟩ | ⟨h', _⟩
        · refine ⟨(within (a * t)).1, (within (a * t)).2, fun w => ⟨hide (mul_any a t w ha hti), hide ?_⟩⟩
          have := add_any p r w hpi hri
          rw [hpv, hrv, ← Int.mul_add, ← htv] at this
          rw [hpv, hrv]; exact this
        · omega
      · omega
    · omega
  clear e1 e2 e3 e4
  have h1' : es = 0 ∨ es = 3 := by omega
  have h2' : ep = 0 ∨ ep = 3 := by omega
  have h3' : er = 0 ∨ er = 3 := by omega
  have h4' : et = 0 ∨ et = 3 := by omega
  clear h1 h2 h3 h4
  go_enter Tryd.func5, Tryd.ntmps5
  go_wp2_with fail
  refine (alive_any _ ht).mono ?_
  rintro e w1 ⟨rfl, hbel⟩
  go_wp2_with fail
  refine (unhide (A1 _)).mono ?_
  rintro e w1 ⟨rfl, rfl⟩
  go_wp2_with fail
  refine (unhide (A2 _)).mono ?_
  rintro e w1 ⟨rfl, rfl⟩
  rcases h1' with rfl | rfl
  · have S2 := S1 rfl
    clear S1
    go_wp2_with fail
    refine (unhide (S2 _)).mono ?_
    rintro e w1 ⟨rfl, rfl⟩
    go_wp2_with fail
    refine (unhide (M1 _)).mono ?_
    rintro e w1 ⟨rfl, rfl⟩
    go_wp2_with fail
    refine (unhide (M2 _)).mono ?_
    rintro e w1 ⟨rfl, rfl⟩
    go_wp2_with fail
    refine (unhide (M3 _)).mono ?_
    rintro e w1 ⟨rfl, rfl⟩
    go_wp2_with fail
    refine (unhide (A4 _)).mono ?_
    rintro e w1 ⟨rfl, rfl⟩
    rcases h2' with rfl | rfl
    · rcases h3' with rfl | rfl
      · rcases h4' with rfl | rfl
        · obtain ⟨u, eu, L2⟩ := L1 rfl rfl rfl
          clear L1
          go_wp2_with fail
          refine (unhide (L2 _).1).mono ?_
          rintro e w1 ⟨rfl, rfl⟩
          go_wp2_with fail
          refine (unhide (L2 _).2).mono ?_
          rintro e w1 ⟨rfl, rfl⟩
          go_wp2
          go_ret
          exact ⟨rfl, hbel⟩
        · go_wp2
          go_ret
          exact ⟨rfl, hbel⟩
      · go_wp2
        go_ret
        exact ⟨rfl, hbel⟩
    · go_wp2
      go_ret
      exact ⟨rfl, hbel⟩
  · go_wp2_with fail
    refine (unhide (M1 _)).mono ?_
    rintro e w1 ⟨rfl, rfl⟩
    go_wp2_with fail
    refine (unhide (M2 _)).mono ?_
    rintro e w1 ⟨rfl, rfl⟩
    go_wp2_with fail
    refine (unhide (M3 _)).mono ?_
    rintro e w1 ⟨rfl, rfl⟩
    go_wp2_with fail
    refine (unhide (A4 _)).mono ?_
    rintro e w1 ⟨rfl, rfl⟩
    rcases h2' with rfl | rfl
    · rcases h3' with rfl | rfl
      · rcases h4' with rfl | rfl
        · obtain ⟨u, eu, L2⟩ := L1 rfl rfl rfl
          clear L1
          go_wp2_with fail
          refine (unhide (L2 _).1).mono ?_
          rintro e w1 ⟨rfl, rfl⟩
          go_wp2_with fail
          refine (unhide (L2 _).2).mono ?_
          rintro e w1 ⟨rfl, rfl⟩
          go_wp2
          go_ret
          exact ⟨rfl, hbel⟩
        · go_wp2
          go_ret
          exact ⟨rfl, hbel⟩
      · go_wp2
        go_ret
        exact ⟨rfl, hbel⟩
    · go_wp2
      go_ret
      exact ⟨rfl, hbel⟩
end Go.Proofs.YtfjbafdgjpdbdaaDoor
