/- What the law TextsTurned answers, for every two texts: true; nothing that was there is turned. -/
import Derived.Test.YtcphfhkefgaalaaW1
namespace Go.Proofs.Ytcphfhkefgaalaa
open Go.RowKit

set_option maxHeartbeats 1000000 in
theorem textsTurned_walk (a0 : ByteArray) (a1 : ByteArray) (w0 : a0.size ≤ maxLen) (w1 : a1.size ≤ maxLen) (w : World) :
    Calls Try.prog 4 #[.string a0, .string a1] w fun e w' => e = .returned (.bool true) ∧ Below w.heap.size w w' := by
  by_cases h0 : a0.size ≤ 65536
  · by_cases h1 : a1.size ≤ 65536
    · have hr0 : (rev a0).size ≤ 65536 := by rw [rev_size]; exact h0
      have hr1 : (rev a1).size ≤ 65536 := by rw [rev_size]; exact h1
      have hne : (((rev a0).size : Int) != (a0.size : Int)) = false := by rw [rev_size]; simp
      have hap : (a0 ++ a1).size = a0.size + a1.size := ByteArray.size_append
      have HA : Hid ((a0 ++ a1).size = a0.size + a1.size) := hap
      clear hap
      by_cases h2 : (a0.size : Int) + (a1.size : Int) ≤ 65536
      · go_enter Try.func4, Try.ntmps4
        go_wp2_with fail
        refine (alive_any _).mono ?_
        rintro e w2 ⟨rfl, hb2⟩
        go_wp2_with fail
        refine (reverse_ok a0 _ h0).mono ?_
        rintro e w3 ⟨rfl, hb3⟩
        go_wp2_with fail
        refine (reverse_ok a1 _ h1).mono ?_
        rintro e w4 ⟨rfl, hb4⟩
        go_wp2_with fail
        refine (reverse_ok (rev a0) _ hr0).mono ?_
        rintro e w5 ⟨rfl, hb5⟩
        rw [rev_rev]
        go_wp2_with fail
        refine (reverse_ok _ _ (by rw [HA.out]; omega)).mono ?_
        rintro e w6 ⟨rfl, hb6⟩
        rw [rev_append]
        go_wp2
        go_ret
        exact ⟨rfl, bnext (bnext (bnext (bnext hb2 hb3) hb4) hb5) hb6⟩
      · go_enter Try.func4, Try.ntmps4
        go_wp2_with fail
        refine (alive_any _).mono ?_
        rintro e w2 ⟨rfl, hb2⟩
        go_wp2_with fail
        refine (reverse_ok a0 _ h0).mono ?_
        rintro e w3 ⟨rfl, hb3⟩
        go_wp2_with fail
        refine (reverse_ok a1 _ h1).mono ?_
        rintro e w4 ⟨rfl, hb4⟩
        go_wp2_with fail
        refine (reverse_ok (rev a0) _ hr0).mono ?_
        rintro e w5 ⟨rfl, hb5⟩
        rw [rev_rev]
        go_wp2_with fail
        refine (reverse_much _ _ (by rw [HA.out]; unfold maxLen; omega) (by rw [HA.out]; omega)).mono ?_
        rintro e w6 ⟨rfl, hb6⟩
        go_wp2
        go_ret
        exact ⟨rfl, bnext (bnext (bnext (bnext hb2 hb3) hb4) hb5) hb6⟩
    · go_enter Try.func4, Try.ntmps4
      go_wp2_with fail
      refine (alive_any _).mono ?_
      rintro e w2 ⟨rfl, hb2⟩
      go_wp2_with fail
      refine (reverse_ok a0 _ h0).mono ?_
      rintro e w3 ⟨rfl, hb3⟩
      go_wp2_with fail
      refine (reverse_much a1 _ w1 (by omega)).mono ?_
      rintro e w4 ⟨rfl, hb4⟩
      go_wp2
      go_ret
      exact ⟨rfl, bnext (bnext hb2 hb3) hb4⟩
  · by_cases h1 : a1.size ≤ 65536
    · go_enter Try.func4, Try.ntmps4
      go_wp2_with fail
      refine (alive_any _).mono ?_
      rintro e w2 ⟨rfl, hb2⟩
      go_wp2_with fail
      refine (reverse_much a0 _ w0 (by omega)).mono ?_
      rintro e w3 ⟨rfl, hb3⟩
      go_wp2_with fail
      refine (reverse_ok a1 _ h1).mono ?_
      rintro e w4 ⟨rfl, hb4⟩
      go_wp2
      go_ret
      exact ⟨rfl, bnext (bnext hb2 hb3) hb4⟩
    · go_enter Try.func4, Try.ntmps4
      go_wp2_with fail
      refine (alive_any _).mono ?_
      rintro e w2 ⟨rfl, hb2⟩
      go_wp2_with fail
      refine (reverse_much a0 _ w0 (by omega)).mono ?_
      rintro e w3 ⟨rfl, hb3⟩
      go_wp2_with fail
      refine (reverse_much a1 _ w1 (by omega)).mono ?_
      rintro e w4 ⟨rfl, hb4⟩
      go_wp2
      go_ret
      exact ⟨rfl, bnext (bnext hb2 hb3) hb4⟩
end Go.Proofs.Ytcphfhkefgaalaa
